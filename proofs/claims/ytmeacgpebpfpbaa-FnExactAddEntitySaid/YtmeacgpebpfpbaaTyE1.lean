/- Chapter 9's data, by program. -/
import Derived.Test.YtmeacgpebpfpbaaTyT
import Derived.Test.YtmeacgpebpfpbaaTyE0
import Derived.LoopTactic
import Derived.Lib.Hide
import Derived.Deep.QuietTactic
import Derived.BigQuiet
import Derived.Deep.RegionWith
import Derived.Handy
namespace Go.Proofs.Ytmeacgpebpfpbaa
open Go.RowKit
set_option linter.unusedVariables false
set_option linter.unusedSimpArgs false
def tyValue : Ty := .rcd [.int, .int]
theorem invValue {w : World} {d : Dat} {xs : List Value} (hT : Has tyValue d) (h : Lies w d xs) : ∃ (f0 : Int) (f1 : Int), d = .r [.i f0, .i f1] ∧ xs = [.int .i64 f0, .int .i64 f1] := by
  simp only [tyValue, Has, HasAll] at hT
  obtain ⟨ds, rfl, d0, r0, rfl, ⟨f0, rfl, -, -⟩, d1, r1, rfl, ⟨f1, rfl, -, -⟩, rfl⟩ := hT
  simp only [Lies, LiesAll] at h
  obtain ⟨e0, q0, rfl, rfl, e1, q1, rfl, rfl, rfl⟩ := h
  exact ⟨f0, f1, rfl, rfl⟩
def tySent : Ty := .rcd [.int, .str, .sl tyValue, .int, .rcd [.int, .int, .int]]
theorem invSent {w : World} {d : Dat} {xs : List Value} (hT : Has tySent d) (h : Lies w d xs) : ∃ (f0 : Int) (f1 : ByteArray) (L2 : List Dat) (A2 : Option Addr) (n2 c2 : Nat) (f3 : Int) (f4_0 : Int) (f4_1 : Int) (f4_2 : Int), d = .r [.i f0, .s f1, .l L2, .i f3, .r [.i f4_0, .i f4_1, .i f4_2]] ∧ xs = [.int .i64 f0, .string f1, .slice A2 n2 c2, .int .i64 f3, .int .i64 f4_0, .int .i64 f4_1, .int .i64 f4_2] ∧ f1.size ≤ 9223372036854775807 ∧ Lies w (.l L2) [.slice A2 n2 c2] ∧ (∀ x ∈ L2, Has tyValue x) ∧ n2 ≤ 9223372036854775807 := by
  simp only [tySent, Has, HasAll] at hT
  obtain ⟨ds, rfl, d0, r0, rfl, ⟨f0, rfl, -, -⟩, d1, r1, rfl, ⟨f1, rfl, hf1⟩, d2, r2, rfl, ⟨L2, rfl, hm2, ht2⟩, d3, r3, rfl, ⟨f3, rfl, -, -⟩, d4, r4, rfl, ⟨ds4, rfl, d4_0, r4_0, rfl, ⟨f4_0, rfl, -, -⟩, d4_1, r4_1, rfl, ⟨f4_1, rfl, -, -⟩, d4_2, r4_2, rfl, ⟨f4_2, rfl, -, -⟩, rfl⟩, rfl⟩ := hT
  simp only [Lies, LiesAll] at h
  obtain ⟨e0, q0, rfl, rfl, e1, q1, rfl, rfl, e2, q2, rfl, ⟨A2, n2, c2, rfl, hn2, hh2⟩, e3, q3, rfl, rfl, e4, q4, rfl, ⟨e4_0, q4_0, rfl, rfl, e4_1, q4_1, rfl, rfl, e4_2, q4_2, rfl, rfl, rfl⟩, rfl⟩ := h
  exact ⟨f0, f1, L2, A2, n2, c2, f3, f4_0, f4_1, f4_2, rfl, rfl, hf1, (by rw [Lies]; exact ⟨A2, n2, c2, rfl, hn2, hh2⟩), ht2, (hn2 ▸ hm2)⟩
def tyAsker : Ty := .rcd [.int, .int]
theorem invAsker {w : World} {d : Dat} {xs : List Value} (hT : Has tyAsker d) (h : Lies w d xs) : ∃ (f0 : Int) (f1 : Int), d = .r [.i f0, .i f1] ∧ xs = [.int .i64 f0, .int .i64 f1] := by
  simp only [tyAsker, Has, HasAll] at hT
  obtain ⟨ds, rfl, d0, r0, rfl, ⟨f0, rfl, -, -⟩, d1, r1, rfl, ⟨f1, rfl, -, -⟩, rfl⟩ := hT
  simp only [Lies, LiesAll] at h
  obtain ⟨e0, q0, rfl, rfl, e1, q1, rfl, rfl, rfl⟩ := h
  exact ⟨f0, f1, rfl, rfl⟩
def tyEntity : Ty := .rcd [.int, .int, .sl tyValue, .int, .rcd [.int, .int], .sl tySent, .sl tyAsker, .int, .int, .int, .int]
theorem tiedEntity : tiedB Try.prog tyEntity 71 = true := by kernel_rfl
theorem invEntity {w : World} {d : Dat} {xs : List Value} (hT : Has tyEntity d) (h : Lies w d xs) : ∃ (f0 : Int) (f1 : Int) (L2 : List Dat) (A2 : Option Addr) (n2 c2 : Nat) (f3 : Int) (f4_0 : Int) (f4_1 : Int) (L5 : List Dat) (A5 : Option Addr) (n5 c5 : Nat) (L6 : List Dat) (A6 : Option Addr) (n6 c6 : Nat) (f7 : Int) (f8 : Int) (f9 : Int) (f10 : Int), d = .r [.i f0, .i f1, .l L2, .i f3, .r [.i f4_0, .i f4_1], .l L5, .l L6, .i f7, .i f8, .i f9, .i f10] ∧ xs = [.int .i64 f0, .int .i64 f1, .slice A2 n2 c2, .int .i64 f3, .int .i64 f4_0, .int .i64 f4_1, .slice A5 n5 c5, .slice A6 n6 c6, .int .i64 f7, .int .i64 f8, .int .i64 f9, .int .i64 f10] ∧ Lies w (.l L2) [.slice A2 n2 c2] ∧ (∀ x ∈ L2, Has tyValue x) ∧ n2 ≤ 9223372036854775807 ∧ Lies w (.l L5) [.slice A5 n5 c5] ∧ (∀ x ∈ L5, Has tySent x) ∧ n5 ≤ 9223372036854775807 ∧ Lies w (.l L6) [.slice A6 n6 c6] ∧ (∀ x ∈ L6, Has tyAsker x) ∧ n6 ≤ 9223372036854775807 := by
  simp only [tyEntity, Has, HasAll] at hT
  obtain ⟨ds, rfl, d0, r0, rfl, ⟨f0, rfl, -, -⟩, d1, r1, rfl, ⟨f1, rfl, -, -⟩, d2, r2, rfl, ⟨L2, rfl, hm2, ht2⟩, d3, r3, rfl, ⟨f3, rfl, -, -⟩, d4, r4, rfl, ⟨ds4, rfl, d4_0, r4_0, rfl, ⟨f4_0, rfl, -, -⟩, d4_1, r4_1, rfl, ⟨f4_1, rfl, -, -⟩, rfl⟩, d5, r5, rfl, ⟨L5, rfl, hm5, ht5⟩, d6, r6, rfl, ⟨L6, rfl, hm6, ht6⟩, d7, r7, rfl, ⟨f7, rfl, -, -⟩, d8, r8, rfl, ⟨f8, rfl, -, -⟩, d9, r9, rfl, ⟨f9, rfl, -, -⟩, d10, r10, rfl, ⟨f10, rfl, -, -⟩, rfl⟩ := hT
  simp only [Lies, LiesAll] at h
  obtain ⟨e0, q0, rfl, rfl, e1, q1, rfl, rfl, e2, q2, rfl, ⟨A2, n2, c2, rfl, hn2, hh2⟩, e3, q3, rfl, rfl, e4, q4, rfl, ⟨e4_0, q4_0, rfl, rfl, e4_1, q4_1, rfl, rfl, rfl⟩, e5, q5, rfl, ⟨A5, n5, c5, rfl, hn5, hh5⟩, e6, q6, rfl, ⟨A6, n6, c6, rfl, hn6, hh6⟩, e7, q7, rfl, rfl, e8, q8, rfl, rfl, e9, q9, rfl, rfl, e10, q10, rfl, rfl, rfl⟩ := h
  exact ⟨f0, f1, L2, A2, n2, c2, f3, f4_0, f4_1, L5, A5, n5, c5, L6, A6, n6, c6, f7, f8, f9, f10, rfl, rfl, (by rw [Lies]; exact ⟨A2, n2, c2, rfl, hn2, hh2⟩), ht2, (hn2 ▸ hm2), (by rw [Lies]; exact ⟨A5, n5, c5, rfl, hn5, hh5⟩), ht5, (hn5 ▸ hm5), (by rw [Lies]; exact ⟨A6, n6, c6, rfl, hn6, hh6⟩), ht6, (hn6 ▸ hm6)⟩
def GivesValue (f0 : Int) (f1 : Int) (w : World) (e : Ending) (w' : World) : Prop := e = .returned (.agg #[.int .i64 f0, .int .i64 f1]) ∧ Below w.heap.size w w'
set_option maxHeartbeats 4000000 in
theorem toValue (f0 : Int) (f1 : Int) (w : World) : Calls Try.prog 33 #[.agg #[.int .i64 f0, .int .i64 f1]] w (GivesValue f0 f1 w) := by
  go_enter Try.func33, Try.ntmps33
  go_wp2
  refine bodyPost_ret (v := .agg #[.int .i64 f0, .int .i64 f1]) (by simp [results, Try.results33, go_sem]) rfl ?_
  exact ⟨rfl, by go_grown⟩
theorem ownValue {w : World} {Iv : Nat → Prop} {f0 : Int} {f1 : Int} : Owns w (.r [.i f0, .i f1]) [.int .i64 f0, .int .i64 f1] Iv := by
  rw [Owns]
  exact (OwnsAll.consF (c1 := [.int .i64 f0]) (d := .i f0) rfl (OwnsAll.consF (c1 := [.int .i64 f1]) (d := .i f1) rfl (OwnsAll.nil_ _ _)))
theorem zeroValue (w : World) : Owns w (.r [.i 0, .i 0]) (#[.int .i64 0, .int .i64 0] : Array Value).toList (fun _ => False) := by
  rw [Owns]
  exact (OwnsAll.consF (c1 := [.int .i64 0]) (d := .i 0) rfl (OwnsAll.consF (c1 := [.int .i64 0]) (d := .i 0) rfl (OwnsAll.nil_ _ _)))
theorem infoValue : (Try.prog.info? 31).map (fun i => (i.zero, i.size, i.bytes)) = some (some (.agg #[.int .i64 0, .int .i64 0]), 2, 16) := by kernel_rfl
set_option maxRecDepth 100000 in
set_option maxHeartbeats 4000000 in
theorem toValueS (L : List Dat) (A : Option Addr) (n c : Nat) (w : World) (h : Lies w (.l L) [.slice A n c]) (ht : ∀ x ∈ L, Has tyValue x) (hq : (Dat.l L).bulk ≤ 1099511627776) : Calls Try.prog 99 #[.slice A n c] w (FreshD L w) := by
  obtain ⟨i0, hi, hz0, hz1, hz2⟩ := info_parts infoValue
  have H := Lib.hid h
  have HT := Lib.hid ht
  have hn : n ≤ 1099511627776 := by have := h.count; simp only [Dat.bulk] at hq; omega
  clear h ht
  go_enter Try.func99, Try.ntmps99
  go_wp2_with (refine wpList_make_full _ rfl _ _ 35 rfl w.heap.size 31 i0 (.agg #[.int .i64 0, .int .i64 0]) 2 Try.underlying35 hi hz0 hz1 _ _ (n : Int) (n : Int) n rfl rfl rfl rfl (by rw [hz2]; omega) (by unfold maxLen; omega) (Nat.le_refl _) ?_)
  intro w1 hown hgrow
  have hU : UptoD w 2 L w.heap.size n 0 w1 := UptoD.start (zc := #[.int .i64 0, .int .i64 0]) (zeroValue) rfl hown (Nat.le_refl _) ((Below.refl w.heap.size w).grown hgrow (Nat.le_refl _) (fun k h => by cases h))
  clear hown hgrow
  go_wp2
  go_loopw [4] (fun iv wr => ∃ i : Nat, i ≤ n ∧ iv = .int .i64 i ∧ UptoD w 2 L w.heap.size n i wr) (fun iv _ => n - (intOf iv).toNat)
  case atStart => exact ⟨0, Nat.zero_le _, rfl, hU⟩
  case round =>
    obtain ⟨i, hin, rfl, hUr⟩ := hrel
    clear hU
    by_cases hlt : i < n
    · have hUr' := Lib.hid hUr
      obtain ⟨ds, B, -, -, -, -, -, hb⟩ := hUr
      obtain ⟨b, off, d, xs, rfl, hbw, hzi, hlie, hlen, hcell⟩ := (H.out.below hb).elem (fun x hx => (HT.out x hx).width) hlt
      obtain ⟨f0, f1, rfl, rfl⟩ := invValue (HT.out d (List.mem_of_getElem? hzi)) hlie
      have r0 : wr.cell? ⟨b, off + i * 2, none⟩ = some (.int .i64 f0) := hcell 0 _ rfl
      have r1 : wr.cell? ⟨b, off + i * 2 + 1, none⟩ = some (.int .i64 f1) := hcell 1 _ rfl
      have HZ := Lib.hid hzi
      have HW := Lib.hid ((HT.out _ (List.mem_of_getElem? hzi)).width)
      have HBR := Lib.hid hb
      clear hzi hb hcell hlie
      go_wp2_with (
        with_reducible refine (toValue f0 f1 _).mono ?_
        rintro e w2 ⟨rfl, hb⟩
        have hsl := hUr'.out.slot hlt hb
        obtain ⟨u0, s0⟩ : ∃ u, w2.cell? ⟨w.heap.size, i * 2, none⟩ = some u := hsl.1 0 (by omega)
        have t0 := hsl.2 (i * 2)
        obtain ⟨u1, s1⟩ : ∃ u, w2.cell? ⟨w.heap.size, i * 2 + 1, none⟩ = some u := hsl.1 1 (by omega)
        have t1 := hsl.2 (i * 2 + 1)
        have HN := Lib.hid (UptoD.next hUr'.out hlt HZ.out HW.out (ownValue (Iv := fun _ => False)) (fun b hb => hb.elim) hb)
        clear hsl hb)
      go_roundw
      case rel => exact ⟨i + 1, by omega, by go_num, HN.out⟩
      case measure => simp [intOf]; omega
    · obtain rfl : i = n := by omega
      have hUr' := Lib.hid hUr
      clear hUr
      go_wp2_with fail
      go_ret
      exact hUr'.out.ret H.out.count
def GivesSent (f0 : Int) (f1 : ByteArray) (L2 : List Dat) (n2 : Nat) (f3 : Int) (f4_0 : Int) (f4_1 : Int) (f4_2 : Int) (w : World) (e : Ending) (w' : World) : Prop := ∃ (B2 : Option Addr) (k2 : Nat), e = .returned (.agg #[.int .i64 f0, .string f1, .slice B2 n2 k2, .int .i64 f3, .int .i64 f4_0, .int .i64 f4_1, .int .i64 f4_2]) ∧ Owns w' (.l L2) [.slice B2 n2 k2] (rng w.heap.size w'.heap.size) ∧ Below w.heap.size w w'
set_option maxHeartbeats 4000000 in
theorem toSent (f0 : Int) (f1 : ByteArray) (L2 : List Dat) (A2 : Option Addr) (n2 c2 : Nat) (f3 : Int) (f4_0 : Int) (f4_1 : Int) (f4_2 : Int) (w : World) (hl2 : Lies w (.l L2) [.slice A2 n2 c2]) (ht2 : ∀ x ∈ L2, Has tyValue x) (hq2 : (Dat.l L2).bulk ≤ 1099511627776) : Calls Try.prog 150 #[.agg #[.int .i64 f0, .string f1, .slice A2 n2 c2, .int .i64 f3, .int .i64 f4_0, .int .i64 f4_1, .int .i64 f4_2]] w (GivesSent f0 f1 L2 n2 f3 f4_0 f4_1 f4_2 w) := by
  have HL2 := Lib.hid hl2
  have HT2 := Lib.hid ht2
  clear hl2 ht2
  go_enter Try.func150, Try.ntmps150
  go_wp2_with fail
  refine (toValueS L2 A2 n2 c2 _ (HL2.out.below (by go_grown)) HT2.out hq2).mono ?_
  rintro e w1 ⟨B2, m2, k2, rfl, hO, hb⟩
  obtain rfl : n2 = m2 := by rw [← hO.lies.count, ← HL2.out.count]
  have y1_0 : w1.cell? ⟨w.heap.size + 1 + 1, 0, none⟩ = some (.int .i64 f0) := (hb.cell (p := ⟨w.heap.size + 1 + 1, 0, none⟩) (by simp; try omega)).trans (by simp [go_sem])
  have y1_1 : w1.cell? ⟨w.heap.size + 1 + 1, 1, none⟩ = some (.string f1) := (hb.cell (p := ⟨w.heap.size + 1 + 1, 1, none⟩) (by simp; try omega)).trans (by simp [go_sem])
  have y1_2 : w1.cell? ⟨w.heap.size + 1 + 1, 2, none⟩ = some (.slice none 0 0) := (hb.cell (p := ⟨w.heap.size + 1 + 1, 2, none⟩) (by simp; try omega)).trans (by simp [go_sem])
  have y1_3 : w1.cell? ⟨w.heap.size + 1 + 1, 3, none⟩ = some (.int .i64 0) := (hb.cell (p := ⟨w.heap.size + 1 + 1, 3, none⟩) (by simp; try omega)).trans (by simp [go_sem])
  have y1_4 : w1.cell? ⟨w.heap.size + 1 + 1, 4, none⟩ = some (.int .i64 0) := (hb.cell (p := ⟨w.heap.size + 1 + 1, 4, none⟩) (by simp; try omega)).trans (by simp [go_sem])
  have y1_5 : w1.cell? ⟨w.heap.size + 1 + 1, 5, none⟩ = some (.int .i64 0) := (hb.cell (p := ⟨w.heap.size + 1 + 1, 5, none⟩) (by simp; try omega)).trans (by simp [go_sem])
  have y1_6 : w1.cell? ⟨w.heap.size + 1 + 1, 6, none⟩ = some (.int .i64 0) := (hb.cell (p := ⟨w.heap.size + 1 + 1, 6, none⟩) (by simp; try omega)).trans (by simp [go_sem])
  have z1_0 : w1.cell? ⟨w.heap.size + 1, 0, none⟩ = some (.int .i64 0) := (hb.cell (p := ⟨w.heap.size + 1, 0, none⟩) (by simp; try omega)).trans (by simp [go_sem])
  have z1_1 : w1.cell? ⟨w.heap.size + 1, 1, none⟩ = some (.string ⟨#[]⟩) := (hb.cell (p := ⟨w.heap.size + 1, 1, none⟩) (by simp; try omega)).trans (by simp [go_sem])
  have z1_2 : w1.cell? ⟨w.heap.size + 1, 2, none⟩ = some (.slice none 0 0) := (hb.cell (p := ⟨w.heap.size + 1, 2, none⟩) (by simp; try omega)).trans (by simp [go_sem])
  have z1_3 : w1.cell? ⟨w.heap.size + 1, 3, none⟩ = some (.int .i64 0) := (hb.cell (p := ⟨w.heap.size + 1, 3, none⟩) (by simp; try omega)).trans (by simp [go_sem])
  have z1_4 : w1.cell? ⟨w.heap.size + 1, 4, none⟩ = some (.int .i64 0) := (hb.cell (p := ⟨w.heap.size + 1, 4, none⟩) (by simp; try omega)).trans (by simp [go_sem])
  have z1_5 : w1.cell? ⟨w.heap.size + 1, 5, none⟩ = some (.int .i64 0) := (hb.cell (p := ⟨w.heap.size + 1, 5, none⟩) (by simp; try omega)).trans (by simp [go_sem])
  have z1_6 : w1.cell? ⟨w.heap.size + 1, 6, none⟩ = some (.int .i64 0) := (hb.cell (p := ⟨w.heap.size + 1, 6, none⟩) (by simp; try omega)).trans (by simp [go_sem])
  have x1_0 : w1.cell? ⟨w.heap.size, 0, none⟩ = some (.int .i64 f0) := (hb.cell (p := ⟨w.heap.size, 0, none⟩) (by simp; try omega)).trans (by simp [go_sem])
  have x1_1 : w1.cell? ⟨w.heap.size, 1, none⟩ = some (.string f1) := (hb.cell (p := ⟨w.heap.size, 1, none⟩) (by simp; try omega)).trans (by simp [go_sem])
  have x1_2 : w1.cell? ⟨w.heap.size, 2, none⟩ = some (.slice A2 n2 c2) := (hb.cell (p := ⟨w.heap.size, 2, none⟩) (by simp; try omega)).trans (by simp [go_sem])
  have x1_3 : w1.cell? ⟨w.heap.size, 3, none⟩ = some (.int .i64 f3) := (hb.cell (p := ⟨w.heap.size, 3, none⟩) (by simp; try omega)).trans (by simp [go_sem])
  have x1_4 : w1.cell? ⟨w.heap.size, 4, none⟩ = some (.int .i64 f4_0) := (hb.cell (p := ⟨w.heap.size, 4, none⟩) (by simp; try omega)).trans (by simp [go_sem])
  have x1_5 : w1.cell? ⟨w.heap.size, 5, none⟩ = some (.int .i64 f4_1) := (hb.cell (p := ⟨w.heap.size, 5, none⟩) (by simp; try omega)).trans (by simp [go_sem])
  have x1_6 : w1.cell? ⟨w.heap.size, 6, none⟩ = some (.int .i64 f4_2) := (hb.cell (p := ⟨w.heap.size, 6, none⟩) (by simp; try omega)).trans (by simp [go_sem])
  have fy1_0 : w1.frozen? ⟨w.heap.size + 1 + 1, 0, none⟩ = false := (hb.frozen (p := ⟨w.heap.size + 1 + 1, 0, none⟩) (by simp; try omega)).trans (by simp [go_sem])
  have fy1_1 : w1.frozen? ⟨w.heap.size + 1 + 1, 1, none⟩ = false := (hb.frozen (p := ⟨w.heap.size + 1 + 1, 1, none⟩) (by simp; try omega)).trans (by simp [go_sem])
  have fy1_2 : w1.frozen? ⟨w.heap.size + 1 + 1, 2, none⟩ = false := (hb.frozen (p := ⟨w.heap.size + 1 + 1, 2, none⟩) (by simp; try omega)).trans (by simp [go_sem])
  have fy1_3 : w1.frozen? ⟨w.heap.size + 1 + 1, 3, none⟩ = false := (hb.frozen (p := ⟨w.heap.size + 1 + 1, 3, none⟩) (by simp; try omega)).trans (by simp [go_sem])
  have fy1_4 : w1.frozen? ⟨w.heap.size + 1 + 1, 4, none⟩ = false := (hb.frozen (p := ⟨w.heap.size + 1 + 1, 4, none⟩) (by simp; try omega)).trans (by simp [go_sem])
  have fy1_5 : w1.frozen? ⟨w.heap.size + 1 + 1, 5, none⟩ = false := (hb.frozen (p := ⟨w.heap.size + 1 + 1, 5, none⟩) (by simp; try omega)).trans (by simp [go_sem])
  have fy1_6 : w1.frozen? ⟨w.heap.size + 1 + 1, 6, none⟩ = false := (hb.frozen (p := ⟨w.heap.size + 1 + 1, 6, none⟩) (by simp; try omega)).trans (by simp [go_sem])
  have fz1_0 : w1.frozen? ⟨w.heap.size + 1, 0, none⟩ = false := (hb.frozen (p := ⟨w.heap.size + 1, 0, none⟩) (by simp; try omega)).trans (by simp [go_sem])
  have fz1_1 : w1.frozen? ⟨w.heap.size + 1, 1, none⟩ = false := (hb.frozen (p := ⟨w.heap.size + 1, 1, none⟩) (by simp; try omega)).trans (by simp [go_sem])
  have fz1_2 : w1.frozen? ⟨w.heap.size + 1, 2, none⟩ = false := (hb.frozen (p := ⟨w.heap.size + 1, 2, none⟩) (by simp; try omega)).trans (by simp [go_sem])
  have fz1_3 : w1.frozen? ⟨w.heap.size + 1, 3, none⟩ = false := (hb.frozen (p := ⟨w.heap.size + 1, 3, none⟩) (by simp; try omega)).trans (by simp [go_sem])
  have fz1_4 : w1.frozen? ⟨w.heap.size + 1, 4, none⟩ = false := (hb.frozen (p := ⟨w.heap.size + 1, 4, none⟩) (by simp; try omega)).trans (by simp [go_sem])
  have fz1_5 : w1.frozen? ⟨w.heap.size + 1, 5, none⟩ = false := (hb.frozen (p := ⟨w.heap.size + 1, 5, none⟩) (by simp; try omega)).trans (by simp [go_sem])
  have fz1_6 : w1.frozen? ⟨w.heap.size + 1, 6, none⟩ = false := (hb.frozen (p := ⟨w.heap.size + 1, 6, none⟩) (by simp; try omega)).trans (by simp [go_sem])
  have HB' : Hid (Below w.heap.size w w1) := Lib.hid (by
    refine Below.trans ?_ (hb.mono ?_)
    · skip
      go_grown
    · simp; try omega)
  have HB := HB'
  clear HB'
  have hs1 := hb.size
  simp at hs1
  have HO2 : Hid (Owns w1 (.l L2) [.slice B2 n2 k2] (rng (w.heap.size + 1 + 1 + 1) w1.heap.size)) := Lib.hid (hO.mono (fun b hb1 => ⟨by have h2 := hb1.1; simp at h2; omega, hb1.2⟩))
  clear hO
  clear hb
  go_wp2_with fail
  refine (toTag f4_0 f4_1 f4_2 _).mono ?_
  rintro e w2 ⟨rfl, hb⟩
  have y2_0 : w2.cell? ⟨w.heap.size + 1 + 1, 0, none⟩ = some (.int .i64 f0) := (hb.cell (p := ⟨w.heap.size + 1 + 1, 0, none⟩) (by simp; try omega)).trans (by simp [go_sem, x1_0, x1_1, x1_2, x1_3, x1_4, x1_5, x1_6, y1_0, y1_1, y1_2, y1_3, y1_4, y1_5, y1_6, z1_0, z1_1, z1_2, z1_3, z1_4, z1_5, z1_6, fy1_0, fy1_1, fy1_2, fy1_3, fy1_4, fy1_5, fy1_6, fz1_0, fz1_1, fz1_2, fz1_3, fz1_4, fz1_5, fz1_6])
  have y2_1 : w2.cell? ⟨w.heap.size + 1 + 1, 1, none⟩ = some (.string f1) := (hb.cell (p := ⟨w.heap.size + 1 + 1, 1, none⟩) (by simp; try omega)).trans (by simp [go_sem, x1_0, x1_1, x1_2, x1_3, x1_4, x1_5, x1_6, y1_0, y1_1, y1_2, y1_3, y1_4, y1_5, y1_6, z1_0, z1_1, z1_2, z1_3, z1_4, z1_5, z1_6, fy1_0, fy1_1, fy1_2, fy1_3, fy1_4, fy1_5, fy1_6, fz1_0, fz1_1, fz1_2, fz1_3, fz1_4, fz1_5, fz1_6])
  have y2_2 : w2.cell? ⟨w.heap.size + 1 + 1, 2, none⟩ = some (.slice B2 n2 k2) := (hb.cell (p := ⟨w.heap.size + 1 + 1, 2, none⟩) (by simp; try omega)).trans (by simp [go_sem, x1_0, x1_1, x1_2, x1_3, x1_4, x1_5, x1_6, y1_0, y1_1, y1_2, y1_3, y1_4, y1_5, y1_6, z1_0, z1_1, z1_2, z1_3, z1_4, z1_5, z1_6, fy1_0, fy1_1, fy1_2, fy1_3, fy1_4, fy1_5, fy1_6, fz1_0, fz1_1, fz1_2, fz1_3, fz1_4, fz1_5, fz1_6])
  have y2_3 : w2.cell? ⟨w.heap.size + 1 + 1, 3, none⟩ = some (.int .i64 f3) := (hb.cell (p := ⟨w.heap.size + 1 + 1, 3, none⟩) (by simp; try omega)).trans (by simp [go_sem, x1_0, x1_1, x1_2, x1_3, x1_4, x1_5, x1_6, y1_0, y1_1, y1_2, y1_3, y1_4, y1_5, y1_6, z1_0, z1_1, z1_2, z1_3, z1_4, z1_5, z1_6, fy1_0, fy1_1, fy1_2, fy1_3, fy1_4, fy1_5, fy1_6, fz1_0, fz1_1, fz1_2, fz1_3, fz1_4, fz1_5, fz1_6])
  have y2_4 : w2.cell? ⟨w.heap.size + 1 + 1, 4, none⟩ = some (.int .i64 0) := (hb.cell (p := ⟨w.heap.size + 1 + 1, 4, none⟩) (by simp; try omega)).trans (by simp [go_sem, x1_0, x1_1, x1_2, x1_3, x1_4, x1_5, x1_6, y1_0, y1_1, y1_2, y1_3, y1_4, y1_5, y1_6, z1_0, z1_1, z1_2, z1_3, z1_4, z1_5, z1_6, fy1_0, fy1_1, fy1_2, fy1_3, fy1_4, fy1_5, fy1_6, fz1_0, fz1_1, fz1_2, fz1_3, fz1_4, fz1_5, fz1_6])
  have y2_5 : w2.cell? ⟨w.heap.size + 1 + 1, 5, none⟩ = some (.int .i64 0) := (hb.cell (p := ⟨w.heap.size + 1 + 1, 5, none⟩) (by simp; try omega)).trans (by simp [go_sem, x1_0, x1_1, x1_2, x1_3, x1_4, x1_5, x1_6, y1_0, y1_1, y1_2, y1_3, y1_4, y1_5, y1_6, z1_0, z1_1, z1_2, z1_3, z1_4, z1_5, z1_6, fy1_0, fy1_1, fy1_2, fy1_3, fy1_4, fy1_5, fy1_6, fz1_0, fz1_1, fz1_2, fz1_3, fz1_4, fz1_5, fz1_6])
  have y2_6 : w2.cell? ⟨w.heap.size + 1 + 1, 6, none⟩ = some (.int .i64 0) := (hb.cell (p := ⟨w.heap.size + 1 + 1, 6, none⟩) (by simp; try omega)).trans (by simp [go_sem, x1_0, x1_1, x1_2, x1_3, x1_4, x1_5, x1_6, y1_0, y1_1, y1_2, y1_3, y1_4, y1_5, y1_6, z1_0, z1_1, z1_2, z1_3, z1_4, z1_5, z1_6, fy1_0, fy1_1, fy1_2, fy1_3, fy1_4, fy1_5, fy1_6, fz1_0, fz1_1, fz1_2, fz1_3, fz1_4, fz1_5, fz1_6])
  have z2_0 : w2.cell? ⟨w.heap.size + 1, 0, none⟩ = some (.int .i64 0) := (hb.cell (p := ⟨w.heap.size + 1, 0, none⟩) (by simp; try omega)).trans (by simp [go_sem, z1_0])
  have z2_1 : w2.cell? ⟨w.heap.size + 1, 1, none⟩ = some (.string ⟨#[]⟩) := (hb.cell (p := ⟨w.heap.size + 1, 1, none⟩) (by simp; try omega)).trans (by simp [go_sem, z1_1])
  have z2_2 : w2.cell? ⟨w.heap.size + 1, 2, none⟩ = some (.slice none 0 0) := (hb.cell (p := ⟨w.heap.size + 1, 2, none⟩) (by simp; try omega)).trans (by simp [go_sem, z1_2])
  have z2_3 : w2.cell? ⟨w.heap.size + 1, 3, none⟩ = some (.int .i64 0) := (hb.cell (p := ⟨w.heap.size + 1, 3, none⟩) (by simp; try omega)).trans (by simp [go_sem, z1_3])
  have z2_4 : w2.cell? ⟨w.heap.size + 1, 4, none⟩ = some (.int .i64 0) := (hb.cell (p := ⟨w.heap.size + 1, 4, none⟩) (by simp; try omega)).trans (by simp [go_sem, z1_4])
  have z2_5 : w2.cell? ⟨w.heap.size + 1, 5, none⟩ = some (.int .i64 0) := (hb.cell (p := ⟨w.heap.size + 1, 5, none⟩) (by simp; try omega)).trans (by simp [go_sem, z1_5])
  have z2_6 : w2.cell? ⟨w.heap.size + 1, 6, none⟩ = some (.int .i64 0) := (hb.cell (p := ⟨w.heap.size + 1, 6, none⟩) (by simp; try omega)).trans (by simp [go_sem, z1_6])
  have x2_0 : w2.cell? ⟨w.heap.size, 0, none⟩ = some (.int .i64 f0) := (hb.cell (p := ⟨w.heap.size, 0, none⟩) (by simp; try omega)).trans (by simp [go_sem, x1_0])
  have x2_1 : w2.cell? ⟨w.heap.size, 1, none⟩ = some (.string f1) := (hb.cell (p := ⟨w.heap.size, 1, none⟩) (by simp; try omega)).trans (by simp [go_sem, x1_1])
  have x2_2 : w2.cell? ⟨w.heap.size, 2, none⟩ = some (.slice A2 n2 c2) := (hb.cell (p := ⟨w.heap.size, 2, none⟩) (by simp; try omega)).trans (by simp [go_sem, x1_2])
  have x2_3 : w2.cell? ⟨w.heap.size, 3, none⟩ = some (.int .i64 f3) := (hb.cell (p := ⟨w.heap.size, 3, none⟩) (by simp; try omega)).trans (by simp [go_sem, x1_3])
  have x2_4 : w2.cell? ⟨w.heap.size, 4, none⟩ = some (.int .i64 f4_0) := (hb.cell (p := ⟨w.heap.size, 4, none⟩) (by simp; try omega)).trans (by simp [go_sem, x1_4])
  have x2_5 : w2.cell? ⟨w.heap.size, 5, none⟩ = some (.int .i64 f4_1) := (hb.cell (p := ⟨w.heap.size, 5, none⟩) (by simp; try omega)).trans (by simp [go_sem, x1_5])
  have x2_6 : w2.cell? ⟨w.heap.size, 6, none⟩ = some (.int .i64 f4_2) := (hb.cell (p := ⟨w.heap.size, 6, none⟩) (by simp; try omega)).trans (by simp [go_sem, x1_6])
  have fy2_0 : w2.frozen? ⟨w.heap.size + 1 + 1, 0, none⟩ = false := (hb.frozen (p := ⟨w.heap.size + 1 + 1, 0, none⟩) (by simp; try omega)).trans (by simp [go_sem, fy1_0])
  have fy2_1 : w2.frozen? ⟨w.heap.size + 1 + 1, 1, none⟩ = false := (hb.frozen (p := ⟨w.heap.size + 1 + 1, 1, none⟩) (by simp; try omega)).trans (by simp [go_sem, fy1_1])
  have fy2_2 : w2.frozen? ⟨w.heap.size + 1 + 1, 2, none⟩ = false := (hb.frozen (p := ⟨w.heap.size + 1 + 1, 2, none⟩) (by simp; try omega)).trans (by simp [go_sem, fy1_2])
  have fy2_3 : w2.frozen? ⟨w.heap.size + 1 + 1, 3, none⟩ = false := (hb.frozen (p := ⟨w.heap.size + 1 + 1, 3, none⟩) (by simp; try omega)).trans (by simp [go_sem, fy1_3])
  have fy2_4 : w2.frozen? ⟨w.heap.size + 1 + 1, 4, none⟩ = false := (hb.frozen (p := ⟨w.heap.size + 1 + 1, 4, none⟩) (by simp; try omega)).trans (by simp [go_sem, fy1_4])
  have fy2_5 : w2.frozen? ⟨w.heap.size + 1 + 1, 5, none⟩ = false := (hb.frozen (p := ⟨w.heap.size + 1 + 1, 5, none⟩) (by simp; try omega)).trans (by simp [go_sem, fy1_5])
  have fy2_6 : w2.frozen? ⟨w.heap.size + 1 + 1, 6, none⟩ = false := (hb.frozen (p := ⟨w.heap.size + 1 + 1, 6, none⟩) (by simp; try omega)).trans (by simp [go_sem, fy1_6])
  have fz2_0 : w2.frozen? ⟨w.heap.size + 1, 0, none⟩ = false := (hb.frozen (p := ⟨w.heap.size + 1, 0, none⟩) (by simp; try omega)).trans (by simp [go_sem, fz1_0])
  have fz2_1 : w2.frozen? ⟨w.heap.size + 1, 1, none⟩ = false := (hb.frozen (p := ⟨w.heap.size + 1, 1, none⟩) (by simp; try omega)).trans (by simp [go_sem, fz1_1])
  have fz2_2 : w2.frozen? ⟨w.heap.size + 1, 2, none⟩ = false := (hb.frozen (p := ⟨w.heap.size + 1, 2, none⟩) (by simp; try omega)).trans (by simp [go_sem, fz1_2])
  have fz2_3 : w2.frozen? ⟨w.heap.size + 1, 3, none⟩ = false := (hb.frozen (p := ⟨w.heap.size + 1, 3, none⟩) (by simp; try omega)).trans (by simp [go_sem, fz1_3])
  have fz2_4 : w2.frozen? ⟨w.heap.size + 1, 4, none⟩ = false := (hb.frozen (p := ⟨w.heap.size + 1, 4, none⟩) (by simp; try omega)).trans (by simp [go_sem, fz1_4])
  have fz2_5 : w2.frozen? ⟨w.heap.size + 1, 5, none⟩ = false := (hb.frozen (p := ⟨w.heap.size + 1, 5, none⟩) (by simp; try omega)).trans (by simp [go_sem, fz1_5])
  have fz2_6 : w2.frozen? ⟨w.heap.size + 1, 6, none⟩ = false := (hb.frozen (p := ⟨w.heap.size + 1, 6, none⟩) (by simp; try omega)).trans (by simp [go_sem, fz1_6])
  clear x1_0 x1_1 x1_2 x1_3 x1_4 x1_5 x1_6 y1_0 y1_1 y1_2 y1_3 y1_4 y1_5 y1_6 z1_0 z1_1 z1_2 z1_3 z1_4 z1_5 z1_6 fy1_0 fy1_1 fy1_2 fy1_3 fy1_4 fy1_5 fy1_6 fz1_0 fz1_1 fz1_2 fz1_3 fz1_4 fz1_5 fz1_6
  have HB' : Hid (Below w.heap.size w w2) := Lib.hid (by
    refine Below.trans ?_ (hb.mono ?_)
    · have hbw := HB.out
      go_grown
    · simp; try omega)
  clear HB
  have HB := HB'
  clear HB'
  have hs2 := hb.size
  simp at hs2
  replace HO2 := Lib.hid ((HO2.out.same (fun b hb1 _ => by
    have hb2 : (w.heap.size + 1 + 1 + 1) ≤ b ∧ b < w1.heap.size := hb1
    have n1 : b ≠ w.heap.size + 1 := by omega
    have n2 : b ≠ w.heap.size + 1 + 1 := by omega
    repeat (first | rw [far_block n1] | rw [far_block n2]))).below hb)
  clear hb
  go_wp2_with (
    with_reducible refine bodyPost_ret (v := .agg #[.int .i64 f0, .string f1, .slice B2 n2 k2, .int .i64 f3, .int .i64 f4_0, .int .i64 f4_1, .int .i64 f4_2]) ?hres rfl ?hpost
    case hres => exact results_box rfl _ _ (w.heap.size + 1) [.int .i64 f0, .string f1, .slice B2 n2 k2, .int .i64 f3, .int .i64 f4_0, .int .i64 f4_1, .int .i64 f4_2] _ rfl (((((((((((Box.of_cells (b := w.heap.size + 1) (cs := [.int .i64 0, .string ⟨#[]⟩, .slice none 0 0, .int .i64 0, .int .i64 0, .int .i64 0, .int .i64 0]) (by omega) ⟨z2_0, z2_1, z2_2, z2_3, z2_4, z2_5, z2_6, trivial⟩).far (by omega) _).far (by omega) _).far (by omega) _).put 0 _).put 1 _).put 2 _).put 3 _).put 4 _).put 5 _).put 6 _) Try.underlying153 rfl (by kernel_rfl)
    case hpost =>
      have lb1 : w.heap.size ≤ w.heap.size + 1 := by omega
      have lb2 : w.heap.size ≤ w.heap.size + 1 + 1 := by omega
      suffices h9 : ∀ w' : World, Touch (fun b => b = w.heap.size + 1 ∨ b = w.heap.size + 1 + 1) w2 w' → Below w.heap.size w w' → GivesSent f0 f1 L2 n2 f3 f4_0 f4_1 f4_2 w (.returned (.agg #[.int .i64 f0, .string f1, .slice B2 n2 k2, .int .i64 f3, .int .i64 f4_0, .int .i64 f4_1, .int .i64 f4_2])) w' from h9 _ (((((((((((Touch.refl (fun b => b = w.heap.size + 1 ∨ b = w.heap.size + 1 + 1) w2).setCell (Or.inr rfl) _).setCell (Or.inr rfl) _).setCell (Or.inr rfl) _).setCell (Or.inl rfl) _).setCell (Or.inl rfl) _).setCell (Or.inl rfl) _).setCell (Or.inl rfl) _).setCell (Or.inl rfl) _).setCell (Or.inl rfl) _).setCell (Or.inl rfl) _) ((((((((((HB.out.setCell lb2 _).setCell lb2 _).setCell lb2 _).setCell lb1 _).setCell lb1 _).setCell lb1 _).setCell lb1 _).setCell lb1 _).setCell lb1 _).setCell lb1 _)
      intro w' hT9 hB9
      refine ⟨B2, k2, rfl, ?_, hB9⟩
      · exact (HO2.out.touch hT9 (fun b hb1 hS => by
          have h2 : (w.heap.size + 1 + 1 + 1) ≤ b := hb1.1
          rcases hS with h | h <;> omega)).mono (fun b hb1 => ⟨by have h2 : (w.heap.size + 1 + 1 + 1) ≤ b := hb1.1; omega, Nat.lt_of_lt_of_le hb1.2 (Nat.le_trans (by omega) hT9.size)⟩))
theorem ownSent {w : World} {a0 a1 : Nat} {f0 : Int} {f1 : ByteArray} {L2 : List Dat} {B2 : Option Addr} {n2 k2 : Nat} {f3 : Int} {f4_0 : Int} {f4_1 : Int} {f4_2 : Int} (hO2 : Owns w (.l L2) [.slice B2 n2 k2] (rng a0 a1)) (ha0 : a0 ≤ a1) : Owns w (.r [.i f0, .s f1, .l L2, .i f3, .r [.i f4_0, .i f4_1, .i f4_2]]) [.int .i64 f0, .string f1, .slice B2 n2 k2, .int .i64 f3, .int .i64 f4_0, .int .i64 f4_1, .int .i64 f4_2] (rng a0 a1) := by
  rw [Owns]
  exact (OwnsAll.consF (c1 := [.int .i64 f0]) (d := .i f0) rfl (OwnsAll.consF (c1 := [.string f1]) (d := .s f1) rfl (OwnsAll.consI hO2 (OwnsAll.consF (c1 := [.int .i64 f3]) (d := .i f3) rfl (OwnsAll.consF (c1 := [.int .i64 f4_0, .int .i64 f4_1, .int .i64 f4_2]) (d := .r [.i f4_0, .i f4_1, .i f4_2]) (OwnsAll.consF (c1 := [.int .i64 f4_0]) (d := .i f4_0) rfl (OwnsAll.consF (c1 := [.int .i64 f4_1]) (d := .i f4_1) rfl (OwnsAll.consF (c1 := [.int .i64 f4_2]) (d := .i f4_2) rfl (OwnsAll.nil_ _ _)))) (OwnsAll.nil_ _ _))) ha0 (by omega))))
theorem zeroSent (w : World) : Owns w (.r [.i 0, .s ⟨#[]⟩, .l [], .i 0, .r [.i 0, .i 0, .i 0]]) (#[.int .i64 0, .string ⟨#[]⟩, .slice none 0 0, .int .i64 0, .int .i64 0, .int .i64 0, .int .i64 0] : Array Value).toList (fun _ => False) := by
  rw [Owns]
  exact (OwnsAll.consF (c1 := [.int .i64 0]) (d := .i 0) rfl (OwnsAll.consF (c1 := [.string ⟨#[]⟩]) (d := .s ⟨#[]⟩) rfl (OwnsAll.consF (c1 := [.slice none 0 0]) (d := .l []) ⟨none, 0, 0, rfl, rfl, Or.inl rfl⟩ (OwnsAll.consF (c1 := [.int .i64 0]) (d := .i 0) rfl (OwnsAll.consF (c1 := [.int .i64 0, .int .i64 0, .int .i64 0]) (d := .r [.i 0, .i 0, .i 0]) (OwnsAll.consF (c1 := [.int .i64 0]) (d := .i 0) rfl (OwnsAll.consF (c1 := [.int .i64 0]) (d := .i 0) rfl (OwnsAll.consF (c1 := [.int .i64 0]) (d := .i 0) rfl (OwnsAll.nil_ _ _)))) (OwnsAll.nil_ _ _))))))
theorem infoSent : (Try.prog.info? 153).map (fun i => (i.zero, i.size, i.bytes)) = some (some (.agg #[.int .i64 0, .string ⟨#[]⟩, .slice none 0 0, .int .i64 0, .int .i64 0, .int .i64 0, .int .i64 0]), 7, 80) := by kernel_rfl
set_option maxRecDepth 100000 in
set_option maxHeartbeats 4000000 in
theorem toSentS (L : List Dat) (A : Option Addr) (n c : Nat) (w : World) (h : Lies w (.l L) [.slice A n c]) (ht : ∀ x ∈ L, Has tySent x) (hq : (Dat.l L).bulk ≤ 1099511627776) : Calls Try.prog 90 #[.slice A n c] w (FreshD L w) := by
  obtain ⟨i0, hi, hz0, hz1, hz2⟩ := info_parts infoSent
  have H := Lib.hid h
  have HT := Lib.hid ht
  have hn : n ≤ 1099511627776 := by have := h.count; simp only [Dat.bulk] at hq; omega
  clear h ht
  go_enter Try.func90, Try.ntmps90
  go_wp2_with (refine wpList_make_full _ rfl _ _ 25 rfl w.heap.size 153 i0 (.agg #[.int .i64 0, .string ⟨#[]⟩, .slice none 0 0, .int .i64 0, .int .i64 0, .int .i64 0, .int .i64 0]) 7 Try.underlying25 hi hz0 hz1 _ _ (n : Int) (n : Int) n rfl rfl rfl rfl (by rw [hz2]; omega) (by unfold maxLen; omega) (Nat.le_refl _) ?_)
  intro w1 hown hgrow
  have hU : UptoD w 7 L w.heap.size n 0 w1 := UptoD.start (zc := #[.int .i64 0, .string ⟨#[]⟩, .slice none 0 0, .int .i64 0, .int .i64 0, .int .i64 0, .int .i64 0]) (zeroSent) rfl hown (Nat.le_refl _) ((Below.refl w.heap.size w).grown hgrow (Nat.le_refl _) (fun k h => by cases h))
  clear hown hgrow
  go_wp2
  go_loopw [4] (fun iv wr => ∃ i : Nat, i ≤ n ∧ iv = .int .i64 i ∧ UptoD w 7 L w.heap.size n i wr) (fun iv _ => n - (intOf iv).toNat)
  case atStart => exact ⟨0, Nat.zero_le _, rfl, hU⟩
  case round =>
    obtain ⟨i, hin, rfl, hUr⟩ := hrel
    clear hU
    by_cases hlt : i < n
    · have hUr' := Lib.hid hUr
      obtain ⟨ds, B, -, -, -, -, -, hb⟩ := hUr
      obtain ⟨b, off, d, xs, rfl, hbw, hzi, hlie, hlen, hcell⟩ := (H.out.below hb).elem (fun x hx => (HT.out x hx).width) hlt
      obtain ⟨f0, f1, L2, A2, n2, c2, f3, f4_0, f4_1, f4_2, rfl, rfl, hf1, hl2, ht2, hm2⟩ := invSent (HT.out d (List.mem_of_getElem? hzi)) hlie
      have r0 : wr.cell? ⟨b, off + i * 7, none⟩ = some (.int .i64 f0) := hcell 0 _ rfl
      have r1 : wr.cell? ⟨b, off + i * 7 + 1, none⟩ = some (.string f1) := hcell 1 _ rfl
      have r2 : wr.cell? ⟨b, off + i * 7 + 2, none⟩ = some (.slice A2 n2 c2) := hcell 2 _ rfl
      have r3 : wr.cell? ⟨b, off + i * 7 + 3, none⟩ = some (.int .i64 f3) := hcell 3 _ rfl
      have r4 : wr.cell? ⟨b, off + i * 7 + 4, none⟩ = some (.int .i64 f4_0) := hcell 4 _ rfl
      have r5 : wr.cell? ⟨b, off + i * 7 + 5, none⟩ = some (.int .i64 f4_1) := hcell 5 _ rfl
      have r6 : wr.cell? ⟨b, off + i * 7 + 6, none⟩ = some (.int .i64 f4_2) := hcell 6 _ rfl
      have hq2 : (Dat.l L2).bulk ≤ 1099511627776 := by have h1 := bulk_mem (List.mem_of_getElem? hzi); simp only [Dat.bulk, bulkAll] at h1 hq ⊢; omega
      have HZ := Lib.hid hzi
      have HW := Lib.hid ((HT.out _ (List.mem_of_getElem? hzi)).width)
      have HBR := Lib.hid hb
      have HL2 := Lib.hid hl2
      have HX2 := Lib.hid ht2
      clear hzi hb hcell hlie hl2 ht2
      go_wp2_with (
        with_reducible refine (toSent f0 f1 L2 A2 n2 c2 f3 f4_0 f4_1 f4_2 _ HL2.out HX2.out hq2).mono ?_
        rintro e w2 ⟨B2, k2, rfl, hO2, hb⟩
        have hsl := hUr'.out.slot hlt hb
        obtain ⟨u0, s0⟩ : ∃ u, w2.cell? ⟨w.heap.size, i * 7, none⟩ = some u := hsl.1 0 (by omega)
        have t0 := hsl.2 (i * 7)
        obtain ⟨u1, s1⟩ : ∃ u, w2.cell? ⟨w.heap.size, i * 7 + 1, none⟩ = some u := hsl.1 1 (by omega)
        have t1 := hsl.2 (i * 7 + 1)
        obtain ⟨u2, s2⟩ : ∃ u, w2.cell? ⟨w.heap.size, i * 7 + 2, none⟩ = some u := hsl.1 2 (by omega)
        have t2 := hsl.2 (i * 7 + 2)
        obtain ⟨u3, s3⟩ : ∃ u, w2.cell? ⟨w.heap.size, i * 7 + 3, none⟩ = some u := hsl.1 3 (by omega)
        have t3 := hsl.2 (i * 7 + 3)
        obtain ⟨u4, s4⟩ : ∃ u, w2.cell? ⟨w.heap.size, i * 7 + 4, none⟩ = some u := hsl.1 4 (by omega)
        have t4 := hsl.2 (i * 7 + 4)
        obtain ⟨u5, s5⟩ : ∃ u, w2.cell? ⟨w.heap.size, i * 7 + 5, none⟩ = some u := hsl.1 5 (by omega)
        have t5 := hsl.2 (i * 7 + 5)
        obtain ⟨u6, s6⟩ : ∃ u, w2.cell? ⟨w.heap.size, i * 7 + 6, none⟩ = some u := hsl.1 6 (by omega)
        have t6 := hsl.2 (i * 7 + 6)
        have HN := Lib.hid (UptoD.next hUr'.out hlt HZ.out HW.out (ownSent hO2 hb.size) (fun b hb => hb) hb)
        clear hsl hb hO2)
      go_roundw
      case rel => exact ⟨i + 1, by omega, by go_num, HN.out⟩
      case measure => simp [intOf]; omega
    · obtain rfl : i = n := by omega
      have hUr' := Lib.hid hUr
      clear hUr
      go_wp2_with fail
      go_ret
      exact hUr'.out.ret H.out.count
def GivesAsker (f0 : Int) (f1 : Int) (w : World) (e : Ending) (w' : World) : Prop := e = .returned (.agg #[.int .i64 f0, .int .i64 f1]) ∧ Below w.heap.size w w'
set_option maxHeartbeats 4000000 in
theorem toAsker (f0 : Int) (f1 : Int) (w : World) : Calls Try.prog 155 #[.agg #[.int .i64 f0, .int .i64 f1]] w (GivesAsker f0 f1 w) := by
  go_enter Try.func155, Try.ntmps155
  go_wp2
  refine bodyPost_ret (v := .agg #[.int .i64 f0, .int .i64 f1]) (by simp [results, Try.results155, go_sem]) rfl ?_
  exact ⟨rfl, by go_grown⟩
theorem ownAsker {w : World} {Iv : Nat → Prop} {f0 : Int} {f1 : Int} : Owns w (.r [.i f0, .i f1]) [.int .i64 f0, .int .i64 f1] Iv := by
  rw [Owns]
  exact (OwnsAll.consF (c1 := [.int .i64 f0]) (d := .i f0) rfl (OwnsAll.consF (c1 := [.int .i64 f1]) (d := .i f1) rfl (OwnsAll.nil_ _ _)))
theorem zeroAsker (w : World) : Owns w (.r [.i 0, .i 0]) (#[.int .i64 0, .int .i64 0] : Array Value).toList (fun _ => False) := by
  rw [Owns]
  exact (OwnsAll.consF (c1 := [.int .i64 0]) (d := .i 0) rfl (OwnsAll.consF (c1 := [.int .i64 0]) (d := .i 0) rfl (OwnsAll.nil_ _ _)))
theorem infoAsker : (Try.prog.info? 119).map (fun i => (i.zero, i.size, i.bytes)) = some (some (.agg #[.int .i64 0, .int .i64 0]), 2, 16) := by kernel_rfl
set_option maxRecDepth 100000 in
set_option maxHeartbeats 4000000 in
theorem toAskerS (L : List Dat) (A : Option Addr) (n c : Nat) (w : World) (h : Lies w (.l L) [.slice A n c]) (ht : ∀ x ∈ L, Has tyAsker x) (hq : (Dat.l L).bulk ≤ 1099511627776) : Calls Try.prog 100 #[.slice A n c] w (FreshD L w) := by
  obtain ⟨i0, hi, hz0, hz1, hz2⟩ := info_parts infoAsker
  have H := Lib.hid h
  have HT := Lib.hid ht
  have hn : n ≤ 1099511627776 := by have := h.count; simp only [Dat.bulk] at hq; omega
  clear h ht
  go_enter Try.func100, Try.ntmps100
  go_wp2_with (refine wpList_make_full _ rfl _ _ 36 rfl w.heap.size 119 i0 (.agg #[.int .i64 0, .int .i64 0]) 2 Try.underlying36 hi hz0 hz1 _ _ (n : Int) (n : Int) n rfl rfl rfl rfl (by rw [hz2]; omega) (by unfold maxLen; omega) (Nat.le_refl _) ?_)
  intro w1 hown hgrow
  have hU : UptoD w 2 L w.heap.size n 0 w1 := UptoD.start (zc := #[.int .i64 0, .int .i64 0]) (zeroAsker) rfl hown (Nat.le_refl _) ((Below.refl w.heap.size w).grown hgrow (Nat.le_refl _) (fun k h => by cases h))
  clear hown hgrow
  go_wp2
  go_loopw [4] (fun iv wr => ∃ i : Nat, i ≤ n ∧ iv = .int .i64 i ∧ UptoD w 2 L w.heap.size n i wr) (fun iv _ => n - (intOf iv).toNat)
  case atStart => exact ⟨0, Nat.zero_le _, rfl, hU⟩
  case round =>
    obtain ⟨i, hin, rfl, hUr⟩ := hrel
    clear hU
    by_cases hlt : i < n
    · have hUr' := Lib.hid hUr
      obtain ⟨ds, B, -, -, -, -, -, hb⟩ := hUr
      obtain ⟨b, off, d, xs, rfl, hbw, hzi, hlie, hlen, hcell⟩ := (H.out.below hb).elem (fun x hx => (HT.out x hx).width) hlt
      obtain ⟨f0, f1, rfl, rfl⟩ := invAsker (HT.out d (List.mem_of_getElem? hzi)) hlie
      have r0 : wr.cell? ⟨b, off + i * 2, none⟩ = some (.int .i64 f0) := hcell 0 _ rfl
      have r1 : wr.cell? ⟨b, off + i * 2 + 1, none⟩ = some (.int .i64 f1) := hcell 1 _ rfl
      have HZ := Lib.hid hzi
      have HW := Lib.hid ((HT.out _ (List.mem_of_getElem? hzi)).width)
      have HBR := Lib.hid hb
      clear hzi hb hcell hlie
      go_wp2_with (
        with_reducible refine (toAsker f0 f1 _).mono ?_
        rintro e w2 ⟨rfl, hb⟩
        have hsl := hUr'.out.slot hlt hb
        obtain ⟨u0, s0⟩ : ∃ u, w2.cell? ⟨w.heap.size, i * 2, none⟩ = some u := hsl.1 0 (by omega)
        have t0 := hsl.2 (i * 2)
        obtain ⟨u1, s1⟩ : ∃ u, w2.cell? ⟨w.heap.size, i * 2 + 1, none⟩ = some u := hsl.1 1 (by omega)
        have t1 := hsl.2 (i * 2 + 1)
        have HN := Lib.hid (UptoD.next hUr'.out hlt HZ.out HW.out (ownAsker (Iv := fun _ => False)) (fun b hb => hb.elim) hb)
        clear hsl hb)
      go_roundw
      case rel => exact ⟨i + 1, by omega, by go_num, HN.out⟩
      case measure => simp [intOf]; omega
    · obtain rfl : i = n := by omega
      have hUr' := Lib.hid hUr
      clear hUr
      go_wp2_with fail
      go_ret
      exact hUr'.out.ret H.out.count
end Go.Proofs.Ytmeacgpebpfpbaa
