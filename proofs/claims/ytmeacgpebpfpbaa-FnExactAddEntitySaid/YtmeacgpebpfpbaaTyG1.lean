/- Chapter 10's data, by program. -/
import Derived.Test.YtmeacgpebpfpbaaTyE0
import Derived.LoopTactic
import Derived.Lib.Hide
import Derived.Deep.QuietTactic
import Derived.BigQuiet
import Derived.Deep.RegionWith
import Derived.Handy
namespace Go.Proofs.Ytmeacgpebpfpbaa
open Go.RowKit
set_option linter.unusedVariables false
set_option linter.unusedSimpArgs false
def tyExport : Ty := .rcd [.int, .int, .int]
theorem invExport {w : World} {d : Dat} {xs : List Value} (hT : Has tyExport d) (h : Lies w d xs) : ∃ (f0 : Int) (f1 : Int) (f2 : Int), d = .r [.i f0, .i f1, .i f2] ∧ xs = [.int .i64 f0, .int .i64 f1, .int .i64 f2] := by
  simp only [tyExport, Has, HasAll] at hT
  obtain ⟨ds, rfl, d0, r0, rfl, ⟨f0, rfl, -, -⟩, d1, r1, rfl, ⟨f1, rfl, -, -⟩, d2, r2, rfl, ⟨f2, rfl, -, -⟩, rfl⟩ := hT
  simp only [Lies, LiesAll] at h
  obtain ⟨e0, q0, rfl, rfl, e1, q1, rfl, rfl, e2, q2, rfl, rfl, rfl⟩ := h
  exact ⟨f0, f1, f2, rfl, rfl⟩
def tyQuestion : Ty := .rcd [.int, .int]
theorem invQuestion {w : World} {d : Dat} {xs : List Value} (hT : Has tyQuestion d) (h : Lies w d xs) : ∃ (f0 : Int) (f1 : Int), d = .r [.i f0, .i f1] ∧ xs = [.int .i64 f0, .int .i64 f1] := by
  simp only [tyQuestion, Has, HasAll] at hT
  obtain ⟨ds, rfl, d0, r0, rfl, ⟨f0, rfl, -, -⟩, d1, r1, rfl, ⟨f1, rfl, -, -⟩, rfl⟩ := hT
  simp only [Lies, LiesAll] at h
  obtain ⟨e0, q0, rfl, rfl, e1, q1, rfl, rfl, rfl⟩ := h
  exact ⟨f0, f1, rfl, rfl⟩
def tyLink : Ty := .rcd [.int, .bool, .sl tyExport, .int, .sl tyQuestion, .int, .sl tyQuestion]
theorem invLink {w : World} {d : Dat} {xs : List Value} (hT : Has tyLink d) (h : Lies w d xs) : ∃ (f0 : Int) (f1 : Bool) (L2 : List Dat) (A2 : Option Addr) (n2 c2 : Nat) (f3 : Int) (L4 : List Dat) (A4 : Option Addr) (n4 c4 : Nat) (f5 : Int) (L6 : List Dat) (A6 : Option Addr) (n6 c6 : Nat), d = .r [.i f0, .b f1, .l L2, .i f3, .l L4, .i f5, .l L6] ∧ xs = [.int .i64 f0, .bool f1, .slice A2 n2 c2, .int .i64 f3, .slice A4 n4 c4, .int .i64 f5, .slice A6 n6 c6] ∧ Lies w (.l L2) [.slice A2 n2 c2] ∧ (∀ x ∈ L2, Has tyExport x) ∧ n2 ≤ 9223372036854775807 ∧ Lies w (.l L4) [.slice A4 n4 c4] ∧ (∀ x ∈ L4, Has tyQuestion x) ∧ n4 ≤ 9223372036854775807 ∧ Lies w (.l L6) [.slice A6 n6 c6] ∧ (∀ x ∈ L6, Has tyQuestion x) ∧ n6 ≤ 9223372036854775807 := by
  simp only [tyLink, Has, HasAll] at hT
  obtain ⟨ds, rfl, d0, r0, rfl, ⟨f0, rfl, -, -⟩, d1, r1, rfl, ⟨f1, rfl⟩, d2, r2, rfl, ⟨L2, rfl, hm2, ht2⟩, d3, r3, rfl, ⟨f3, rfl, -, -⟩, d4, r4, rfl, ⟨L4, rfl, hm4, ht4⟩, d5, r5, rfl, ⟨f5, rfl, -, -⟩, d6, r6, rfl, ⟨L6, rfl, hm6, ht6⟩, rfl⟩ := hT
  simp only [Lies, LiesAll] at h
  obtain ⟨e0, q0, rfl, rfl, e1, q1, rfl, rfl, e2, q2, rfl, ⟨A2, n2, c2, rfl, hn2, hh2⟩, e3, q3, rfl, rfl, e4, q4, rfl, ⟨A4, n4, c4, rfl, hn4, hh4⟩, e5, q5, rfl, rfl, e6, q6, rfl, ⟨A6, n6, c6, rfl, hn6, hh6⟩, rfl⟩ := h
  exact ⟨f0, f1, L2, A2, n2, c2, f3, L4, A4, n4, c4, f5, L6, A6, n6, c6, rfl, rfl, (by rw [Lies]; exact ⟨A2, n2, c2, rfl, hn2, hh2⟩), ht2, (hn2 ▸ hm2), (by rw [Lies]; exact ⟨A4, n4, c4, rfl, hn4, hh4⟩), ht4, (hn4 ▸ hm4), (by rw [Lies]; exact ⟨A6, n6, c6, rfl, hn6, hh6⟩), ht6, (hn6 ▸ hm6)⟩
def GivesExport (f0 : Int) (f1 : Int) (f2 : Int) (w : World) (e : Ending) (w' : World) : Prop := e = .returned (.agg #[.int .i64 f0, .int .i64 f1, .int .i64 f2]) ∧ Below w.heap.size w w'
set_option maxHeartbeats 4000000 in
theorem toExport (f0 : Int) (f1 : Int) (f2 : Int) (w : World) : Calls Try.prog 184 #[.agg #[.int .i64 f0, .int .i64 f1, .int .i64 f2]] w (GivesExport f0 f1 f2 w) := by
  go_enter Try.func184, Try.ntmps184
  go_wp2
  refine bodyPost_ret (v := .agg #[.int .i64 f0, .int .i64 f1, .int .i64 f2]) (by simp [results, Try.results184, go_sem]) rfl ?_
  exact ⟨rfl, by go_grown⟩
theorem ownExport {w : World} {Iv : Nat → Prop} {f0 : Int} {f1 : Int} {f2 : Int} : Owns w (.r [.i f0, .i f1, .i f2]) [.int .i64 f0, .int .i64 f1, .int .i64 f2] Iv := by
  rw [Owns]
  exact (OwnsAll.consF (c1 := [.int .i64 f0]) (d := .i f0) rfl (OwnsAll.consF (c1 := [.int .i64 f1]) (d := .i f1) rfl (OwnsAll.consF (c1 := [.int .i64 f2]) (d := .i f2) rfl (OwnsAll.nil_ _ _))))
theorem zeroExport (w : World) : Owns w (.r [.i 0, .i 0, .i 0]) (#[.int .i64 0, .int .i64 0, .int .i64 0] : Array Value).toList (fun _ => False) := by
  rw [Owns]
  exact (OwnsAll.consF (c1 := [.int .i64 0]) (d := .i 0) rfl (OwnsAll.consF (c1 := [.int .i64 0]) (d := .i 0) rfl (OwnsAll.consF (c1 := [.int .i64 0]) (d := .i 0) rfl (OwnsAll.nil_ _ _))))
theorem infoExport : (Try.prog.info? 174).map (fun i => (i.zero, i.size, i.bytes)) = some (some (.agg #[.int .i64 0, .int .i64 0, .int .i64 0]), 3, 24) := by kernel_rfl
set_option maxRecDepth 100000 in
set_option maxHeartbeats 4000000 in
theorem toExportS (L : List Dat) (A : Option Addr) (n c : Nat) (w : World) (h : Lies w (.l L) [.slice A n c]) (ht : ∀ x ∈ L, Has tyExport x) (hq : (Dat.l L).bulk ≤ 1099511627776) : Calls Try.prog 173 #[.slice A n c] w (FreshD L w) := by
  obtain ⟨i0, hi, hz0, hz1, hz2⟩ := info_parts infoExport
  have H := Lib.hid h
  have HT := Lib.hid ht
  have hn : n ≤ 1099511627776 := by have := h.count; simp only [Dat.bulk] at hq; omega
  clear h ht
  go_enter Try.func173, Try.ntmps173
  go_wp2_with (refine wpList_make_full _ rfl _ _ 94 rfl w.heap.size 174 i0 (.agg #[.int .i64 0, .int .i64 0, .int .i64 0]) 3 Try.underlying94 hi hz0 hz1 _ _ (n : Int) (n : Int) n rfl rfl rfl rfl (by rw [hz2]; omega) (by unfold maxLen; omega) (Nat.le_refl _) ?_)
  intro w1 hown hgrow
  have hU : UptoD w 3 L w.heap.size n 0 w1 := UptoD.start (zc := #[.int .i64 0, .int .i64 0, .int .i64 0]) (zeroExport) rfl hown (Nat.le_refl _) ((Below.refl w.heap.size w).grown hgrow (Nat.le_refl _) (fun k h => by cases h))
  clear hown hgrow
  go_wp2
  go_loopw [4] (fun iv wr => ∃ i : Nat, i ≤ n ∧ iv = .int .i64 i ∧ UptoD w 3 L w.heap.size n i wr) (fun iv _ => n - (intOf iv).toNat)
  case atStart => exact ⟨0, Nat.zero_le _, rfl, hU⟩
  case round =>
    obtain ⟨i, hin, rfl, hUr⟩ := hrel
    clear hU
    by_cases hlt : i < n
    · have hUr' := Lib.hid hUr
      obtain ⟨ds, B, -, -, -, -, -, hb⟩ := hUr
      obtain ⟨b, off, d, xs, rfl, hbw, hzi, hlie, hlen, hcell⟩ := (H.out.below hb).elem (fun x hx => (HT.out x hx).width) hlt
      obtain ⟨f0, f1, f2, rfl, rfl⟩ := invExport (HT.out d (List.mem_of_getElem? hzi)) hlie
      have r0 : wr.cell? ⟨b, off + i * 3, none⟩ = some (.int .i64 f0) := hcell 0 _ rfl
      have r1 : wr.cell? ⟨b, off + i * 3 + 1, none⟩ = some (.int .i64 f1) := hcell 1 _ rfl
      have r2 : wr.cell? ⟨b, off + i * 3 + 2, none⟩ = some (.int .i64 f2) := hcell 2 _ rfl
      have HZ := Lib.hid hzi
      have HW := Lib.hid ((HT.out _ (List.mem_of_getElem? hzi)).width)
      have HBR := Lib.hid hb
      clear hzi hb hcell hlie
      go_wp2_with (
        with_reducible refine (toExport f0 f1 f2 _).mono ?_
        rintro e w2 ⟨rfl, hb⟩
        have hsl := hUr'.out.slot hlt hb
        obtain ⟨u0, s0⟩ : ∃ u, w2.cell? ⟨w.heap.size, i * 3, none⟩ = some u := hsl.1 0 (by omega)
        have t0 := hsl.2 (i * 3)
        obtain ⟨u1, s1⟩ : ∃ u, w2.cell? ⟨w.heap.size, i * 3 + 1, none⟩ = some u := hsl.1 1 (by omega)
        have t1 := hsl.2 (i * 3 + 1)
        obtain ⟨u2, s2⟩ : ∃ u, w2.cell? ⟨w.heap.size, i * 3 + 2, none⟩ = some u := hsl.1 2 (by omega)
        have t2 := hsl.2 (i * 3 + 2)
        have HN := Lib.hid (UptoD.next hUr'.out hlt HZ.out HW.out (ownExport (Iv := fun _ => False)) (fun b hb => hb.elim) hb)
        clear hsl hb)
      go_roundw
      case rel => exact ⟨i + 1, by omega, by go_num, HN.out⟩
      case measure => simp [intOf]; omega
    · obtain rfl : i = n := by omega
      have hUr' := Lib.hid hUr
      clear hUr
      go_wp2_with fail
      go_ret
      exact hUr'.out.ret H.out.count
def GivesQuestion (f0 : Int) (f1 : Int) (w : World) (e : Ending) (w' : World) : Prop := e = .returned (.agg #[.int .i64 f0, .int .i64 f1]) ∧ Below w.heap.size w w'
set_option maxHeartbeats 4000000 in
theorem toQuestion (f0 : Int) (f1 : Int) (w : World) : Calls Try.prog 185 #[.agg #[.int .i64 f0, .int .i64 f1]] w (GivesQuestion f0 f1 w) := by
  go_enter Try.func185, Try.ntmps185
  go_wp2
  refine bodyPost_ret (v := .agg #[.int .i64 f0, .int .i64 f1]) (by simp [results, Try.results185, go_sem]) rfl ?_
  exact ⟨rfl, by go_grown⟩
theorem ownQuestion {w : World} {Iv : Nat → Prop} {f0 : Int} {f1 : Int} : Owns w (.r [.i f0, .i f1]) [.int .i64 f0, .int .i64 f1] Iv := by
  rw [Owns]
  exact (OwnsAll.consF (c1 := [.int .i64 f0]) (d := .i f0) rfl (OwnsAll.consF (c1 := [.int .i64 f1]) (d := .i f1) rfl (OwnsAll.nil_ _ _)))
theorem zeroQuestion (w : World) : Owns w (.r [.i 0, .i 0]) (#[.int .i64 0, .int .i64 0] : Array Value).toList (fun _ => False) := by
  rw [Owns]
  exact (OwnsAll.consF (c1 := [.int .i64 0]) (d := .i 0) rfl (OwnsAll.consF (c1 := [.int .i64 0]) (d := .i 0) rfl (OwnsAll.nil_ _ _)))
theorem infoQuestion : (Try.prog.info? 177).map (fun i => (i.zero, i.size, i.bytes)) = some (some (.agg #[.int .i64 0, .int .i64 0]), 2, 16) := by kernel_rfl
set_option maxRecDepth 100000 in
set_option maxHeartbeats 4000000 in
theorem toQuestionS (L : List Dat) (A : Option Addr) (n c : Nat) (w : World) (h : Lies w (.l L) [.slice A n c]) (ht : ∀ x ∈ L, Has tyQuestion x) (hq : (Dat.l L).bulk ≤ 1099511627776) : Calls Try.prog 174 #[.slice A n c] w (FreshD L w) := by
  obtain ⟨i0, hi, hz0, hz1, hz2⟩ := info_parts infoQuestion
  have H := Lib.hid h
  have HT := Lib.hid ht
  have hn : n ≤ 1099511627776 := by have := h.count; simp only [Dat.bulk] at hq; omega
  clear h ht
  go_enter Try.func174, Try.ntmps174
  go_wp2_with (refine wpList_make_full _ rfl _ _ 95 rfl w.heap.size 177 i0 (.agg #[.int .i64 0, .int .i64 0]) 2 Try.underlying95 hi hz0 hz1 _ _ (n : Int) (n : Int) n rfl rfl rfl rfl (by rw [hz2]; omega) (by unfold maxLen; omega) (Nat.le_refl _) ?_)
  intro w1 hown hgrow
  have hU : UptoD w 2 L w.heap.size n 0 w1 := UptoD.start (zc := #[.int .i64 0, .int .i64 0]) (zeroQuestion) rfl hown (Nat.le_refl _) ((Below.refl w.heap.size w).grown hgrow (Nat.le_refl _) (fun k h => by cases h))
  clear hown hgrow
  go_wp2
  go_loopw [4] (fun iv wr => ∃ i : Nat, i ≤ n ∧ iv = .int .i64 i ∧ UptoD w 2 L w.heap.size n i wr) (fun iv _ => n - (intOf iv).toNat)
  case atStart => exact ⟨0, Nat.zero_le _, rfl, hU⟩
  case round =>
    obtain ⟨i, hin, rfl, hUr⟩ := hrel
    clear hU
    by_cases hlt : i < n
    · have hUr' := Lib.hid hUr
      obtain ⟨ds, B, -, -, -, -, -, hb⟩ := hUr
      obtain ⟨b, off, d, xs, rfl, hbw, hzi, hlie, hlen, hcell⟩ := (H.out.below hb).elem (fun x hx => (HT.out x hx).width) hlt
      obtain ⟨f0, f1, rfl, rfl⟩ := invQuestion (HT.out d (List.mem_of_getElem? hzi)) hlie
      have r0 : wr.cell? ⟨b, off + i * 2, none⟩ = some (.int .i64 f0) := hcell 0 _ rfl
      have r1 : wr.cell? ⟨b, off + i * 2 + 1, none⟩ = some (.int .i64 f1) := hcell 1 _ rfl
      have HZ := Lib.hid hzi
      have HW := Lib.hid ((HT.out _ (List.mem_of_getElem? hzi)).width)
      have HBR := Lib.hid hb
      clear hzi hb hcell hlie
      go_wp2_with (
        with_reducible refine (toQuestion f0 f1 _).mono ?_
        rintro e w2 ⟨rfl, hb⟩
        have hsl := hUr'.out.slot hlt hb
        obtain ⟨u0, s0⟩ : ∃ u, w2.cell? ⟨w.heap.size, i * 2, none⟩ = some u := hsl.1 0 (by omega)
        have t0 := hsl.2 (i * 2)
        obtain ⟨u1, s1⟩ : ∃ u, w2.cell? ⟨w.heap.size, i * 2 + 1, none⟩ = some u := hsl.1 1 (by omega)
        have t1 := hsl.2 (i * 2 + 1)
        have HN := Lib.hid (UptoD.next hUr'.out hlt HZ.out HW.out (ownQuestion (Iv := fun _ => False)) (fun b hb => hb.elim) hb)
        clear hsl hb)
      go_roundw
      case rel => exact ⟨i + 1, by omega, by go_num, HN.out⟩
      case measure => simp [intOf]; omega
    · obtain rfl : i = n := by omega
      have hUr' := Lib.hid hUr
      clear hUr
      go_wp2_with fail
      go_ret
      exact hUr'.out.ret H.out.count
end Go.Proofs.Ytmeacgpebpfpbaa
