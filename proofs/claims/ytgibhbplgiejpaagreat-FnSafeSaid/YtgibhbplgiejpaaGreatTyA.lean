/- Types of chapters 5 and 6, and the laws' copies of their data.
   The laws' comparisons of data that read alike.
   The laws' sizes.
   Of no program: what a law's walk holds over nested data: boxes, and data that read. -/
import Derived.Test.YtgibhbplgiejpaaGreatData
import Derived.LoopTactic
import Derived.Lib.Hide
import Derived.Deep.QuietTactic
import Derived.BigQuiet
import Derived.Deep.RegionWith
import Derived.Handy
import Derived.Test.YtgibhbplgiejpaaGreatBase
namespace Go.Proofs.YtgibhbplgiejpaaGreat
open Go.RowKit
set_option linter.unusedVariables false
set_option linter.unusedSimpArgs false
def tyInstr : Ty := .rcd [.int, .int, .int, .int, .int, .str]
theorem tiedInstr : tiedB Tryz.prog tyInstr 141 = true := by kernel_rfl
theorem widthInstr : tyInstr.width = 6 := rfl
theorem invInstr {w : World} {d : Dat} {xs : List Value} (hT : Has tyInstr d) (h : Lies w d xs) : ∃ (f0 : Int) (f1 : Int) (f2 : Int) (f3 : Int) (f4 : Int) (f5 : ByteArray), d = .r [.i f0, .i f1, .i f2, .i f3, .i f4, .s f5] ∧ xs = [.int .i64 f0, .int .i64 f1, .int .i64 f2, .int .i64 f3, .int .i64 f4, .string f5] ∧ f5.size ≤ 9223372036854775807 := by
  simp only [tyInstr, Has, HasAll] at hT
  obtain ⟨ds, rfl, d0, r0, rfl, ⟨f0, rfl, -, -⟩, d1, r1, rfl, ⟨f1, rfl, -, -⟩, d2, r2, rfl, ⟨f2, rfl, -, -⟩, d3, r3, rfl, ⟨f3, rfl, -, -⟩, d4, r4, rfl, ⟨f4, rfl, -, -⟩, d5, r5, rfl, ⟨f5, rfl, hf5⟩, rfl⟩ := hT
  simp only [Lies, LiesAll] at h
  obtain ⟨e0, q0, rfl, rfl, e1, q1, rfl, rfl, e2, q2, rfl, rfl, e3, q3, rfl, rfl, e4, q4, rfl, rfl, e5, q5, rfl, rfl, rfl⟩ := h
  exact ⟨f0, f1, f2, f3, f4, f5, rfl, rfl, hf5⟩
def GivesInstr (f0 : Int) (f1 : Int) (f2 : Int) (f3 : Int) (f4 : Int) (f5 : ByteArray) (w : World) (e : Ending) (w' : World) : Prop := e = .returned (.agg #[.int .i64 f0, .int .i64 f1, .int .i64 f2, .int .i64 f3, .int .i64 f4, .string f5]) ∧ Below w.heap.size w w'
set_option maxHeartbeats 2000000 in
theorem toInstr (f0 : Int) (f1 : Int) (f2 : Int) (f3 : Int) (f4 : Int) (f5 : ByteArray) (w : World) : Calls Tryz.prog 128 #[.agg #[.int .i64 f0, .int .i64 f1, .int .i64 f2, .int .i64 f3, .int .i64 f4, .string f5]] w (GivesInstr f0 f1 f2 f3 f4 f5 w) := by
  go_enter Tryz.func128, Tryz.ntmps128
  go_wp2
  refine bodyPost_ret (v := .agg #[.int .i64 f0, .int .i64 f1, .int .i64 f2, .int .i64 f3, .int .i64 f4, .string f5]) (by simp [results, Tryz.results128, go_sem]) rfl ?_
  exact ⟨rfl, by go_grown⟩
theorem ownInstr {w : World} {Iv : Nat → Prop} {f0 : Int} {f1 : Int} {f2 : Int} {f3 : Int} {f4 : Int} {f5 : ByteArray} : Owns w (.r [.i f0, .i f1, .i f2, .i f3, .i f4, .s f5]) [.int .i64 f0, .int .i64 f1, .int .i64 f2, .int .i64 f3, .int .i64 f4, .string f5] Iv := by
  exact ⟨[.int .i64 f0], _, (fun _ => False), (fun _ => False), rfl, (fun b hb => hb.elim), (fun b hb => hb.elim), (fun b hb hb' => hb.elim), rfl, ⟨[.int .i64 f1], _, (fun _ => False), (fun _ => False), rfl, (fun b hb => hb.elim), (fun b hb => hb.elim), (fun b hb hb' => hb.elim), rfl, ⟨[.int .i64 f2], _, (fun _ => False), (fun _ => False), rfl, (fun b hb => hb.elim), (fun b hb => hb.elim), (fun b hb hb' => hb.elim), rfl, ⟨[.int .i64 f3], _, (fun _ => False), (fun _ => False), rfl, (fun b hb => hb.elim), (fun b hb => hb.elim), (fun b hb hb' => hb.elim), rfl, ⟨[.int .i64 f4], _, (fun _ => False), (fun _ => False), rfl, (fun b hb => hb.elim), (fun b hb => hb.elim), (fun b hb hb' => hb.elim), rfl, ⟨[.string f5], _, (fun _ => False), (fun _ => False), rfl, (fun b hb => hb.elim), (fun b hb => hb.elim), (fun b hb hb' => hb.elim), rfl, rfl⟩⟩⟩⟩⟩⟩
theorem zeroInstr (w : World) : Owns w (.r [.i 0, .i 0, .i 0, .i 0, .i 0, .s ⟨#[]⟩]) (#[.int .i64 0, .int .i64 0, .int .i64 0, .int .i64 0, .int .i64 0, .string ⟨#[]⟩] : Array Value).toList (fun _ => False) := by
  exact ⟨[.int .i64 0], _, (fun _ => False), (fun _ => False), rfl, (fun b hb => hb), (fun b hb => hb), (fun b hb _ => hb), rfl, ⟨[.int .i64 0], _, (fun _ => False), (fun _ => False), rfl, (fun b hb => hb), (fun b hb => hb), (fun b hb _ => hb), rfl, ⟨[.int .i64 0], _, (fun _ => False), (fun _ => False), rfl, (fun b hb => hb), (fun b hb => hb), (fun b hb _ => hb), rfl, ⟨[.int .i64 0], _, (fun _ => False), (fun _ => False), rfl, (fun b hb => hb), (fun b hb => hb), (fun b hb _ => hb), rfl, ⟨[.int .i64 0], _, (fun _ => False), (fun _ => False), rfl, (fun b hb => hb), (fun b hb => hb), (fun b hb _ => hb), rfl, ⟨[.string ⟨#[]⟩], _, (fun _ => False), (fun _ => False), rfl, (fun b hb => hb), (fun b hb => hb), (fun b hb _ => hb), rfl, rfl⟩⟩⟩⟩⟩⟩
theorem infoInstr : (Tryz.prog.info? 32).map (fun i => (i.zero, i.size, i.bytes)) = some (some (.agg #[.int .i64 0, .int .i64 0, .int .i64 0, .int .i64 0, .int .i64 0, .string ⟨#[]⟩]), 6, 56) := by kernel_rfl
set_option maxRecDepth 100000 in
set_option maxHeartbeats 2000000 in
theorem toInstrS (L : List Dat) (A : Option Addr) (n c : Nat) (w : World) (h : Lies w (.l L) [.slice A n c]) (ht : ∀ x ∈ L, Has tyInstr x) (hq : (Dat.l L).bulk ≤ 1099511627776) : Calls Tryz.prog 118 #[.slice A n c] w (FreshD L w) := by
  obtain ⟨i0, hi, hz0, hz1, hz2⟩ := info_parts infoInstr
  have H := Lib.hid h
  have HT := Lib.hid ht
  have hn : n ≤ 1099511627776 := by have := h.count; simp only [Dat.bulk] at hq; omega
  clear h ht
  go_enter Tryz.func118, Tryz.ntmps118
  go_wp2_with (refine wpList_make_full _ rfl _ _ 24 rfl w.heap.size 32 i0 (.agg #[.int .i64 0, .int .i64 0, .int .i64 0, .int .i64 0, .int .i64 0, .string ⟨#[]⟩]) 6 Tryz.underlying24 hi hz0 hz1 _ _ (n : Int) (n : Int) n rfl rfl rfl rfl (by rw [hz2]; omega) (by unfold maxLen; omega) (Nat.le_refl _) ?_)
  intro w1 hown hgrow
  have hU : UptoD w 6 L w.heap.size n 0 w1 := UptoD.start (zc := #[.int .i64 0, .int .i64 0, .int .i64 0, .int .i64 0, .int .i64 0, .string ⟨#[]⟩]) (zeroInstr) rfl hown (Nat.le_refl _) ((Below.refl w.heap.size w).grown hgrow (Nat.le_refl _) (fun k h => by cases h))
  clear hown hgrow
  go_wp2
  go_loopw [4] (fun iv wr => ∃ i : Nat, i ≤ n ∧ iv = .int .i64 i ∧ UptoD w 6 L w.heap.size n i wr) (fun iv _ => n - (intOf iv).toNat)
  case atStart => exact ⟨0, Nat.zero_le _, rfl, hU⟩
  case round =>
    obtain ⟨i, hin, rfl, hUr⟩ := hrel
    clear hU
    by_cases hlt : i < n
    · have hUr' := Lib.hid hUr
      obtain ⟨ds, B, -, -, -, -, -, hb⟩ := hUr
      obtain ⟨b, off, d, xs, rfl, hbw, hzi, hlie, hlen, hcell⟩ := (H.out.below hb).elem (fun x hx => (HT.out x hx).width) hlt
      obtain ⟨f0, f1, f2, f3, f4, f5, rfl, rfl, hf5⟩ := invInstr (HT.out d (List.mem_of_getElem? hzi)) hlie
      have r0 : wr.cell? ⟨b, off + i * 6, none⟩ = some (.int .i64 f0) := hcell 0 _ rfl
      have r1 : wr.cell? ⟨b, off + i * 6 + 1, none⟩ = some (.int .i64 f1) := hcell 1 _ rfl
      have r2 : wr.cell? ⟨b, off + i * 6 + 2, none⟩ = some (.int .i64 f2) := hcell 2 _ rfl
      have r3 : wr.cell? ⟨b, off + i * 6 + 3, none⟩ = some (.int .i64 f3) := hcell 3 _ rfl
      have r4 : wr.cell? ⟨b, off + i * 6 + 4, none⟩ = some (.int .i64 f4) := hcell 4 _ rfl
      have r5 : wr.cell? ⟨b, off + i * 6 + 5, none⟩ = some (.string f5) := hcell 5 _ rfl
      have HZ := Lib.hid hzi
      have HW := Lib.hid ((HT.out _ (List.mem_of_getElem? hzi)).width)
      have HBR := Lib.hid hb
      clear hzi hb hcell hlie
      go_wp2_with (
        with_reducible refine (toInstr f0 f1 f2 f3 f4 f5 _).mono ?_
        rintro e w2 ⟨rfl, hb2⟩
        have hsl := hUr'.out.slot hlt hb2
        obtain ⟨u0, s0⟩ : ∃ u, w2.cell? ⟨w.heap.size, i * 6, none⟩ = some u := hsl.1 0 (by omega)
        have t0 := hsl.2 (i * 6)
        obtain ⟨u1, s1⟩ : ∃ u, w2.cell? ⟨w.heap.size, i * 6 + 1, none⟩ = some u := hsl.1 1 (by omega)
        have t1 := hsl.2 (i * 6 + 1)
        obtain ⟨u2, s2⟩ : ∃ u, w2.cell? ⟨w.heap.size, i * 6 + 2, none⟩ = some u := hsl.1 2 (by omega)
        have t2 := hsl.2 (i * 6 + 2)
        obtain ⟨u3, s3⟩ : ∃ u, w2.cell? ⟨w.heap.size, i * 6 + 3, none⟩ = some u := hsl.1 3 (by omega)
        have t3 := hsl.2 (i * 6 + 3)
        obtain ⟨u4, s4⟩ : ∃ u, w2.cell? ⟨w.heap.size, i * 6 + 4, none⟩ = some u := hsl.1 4 (by omega)
        have t4 := hsl.2 (i * 6 + 4)
        obtain ⟨u5, s5⟩ : ∃ u, w2.cell? ⟨w.heap.size, i * 6 + 5, none⟩ = some u := hsl.1 5 (by omega)
        have t5 := hsl.2 (i * 6 + 5)
        have HN := Lib.hid (UptoD.next hUr'.out hlt HZ.out HW.out (ownInstr (Iv := fun _ => False)) (fun b hb => hb.elim) hb2)
        clear hsl hb2)
      go_roundw
      case rel => exact ⟨i + 1, by omega, by go_num, HN.out⟩
      case measure => simp [intOf]; omega
    · obtain rfl : i = n := by omega
      have hUr' := Lib.hid hUr
      clear hUr
      go_wp2_with fail
      go_ret
      exact hUr'.out.ret H.out.count
def tyMethod : Ty := .rcd [.str, .sl tyInstr]
theorem tiedMethod : tiedB Tryz.prog tyMethod 122 = true := by kernel_rfl
theorem widthMethod : tyMethod.width = 2 := rfl
theorem invMethod {w : World} {d : Dat} {xs : List Value} (hT : Has tyMethod d) (h : Lies w d xs) : ∃ (f0 : ByteArray) (L1 : List Dat) (A1 : Option Addr) (n1 c1 : Nat), d = .r [.s f0, .l L1] ∧ xs = [.string f0, .slice A1 n1 c1] ∧ f0.size ≤ 9223372036854775807 ∧ Lies w (.l L1) [.slice A1 n1 c1] ∧ (∀ x ∈ L1, Has tyInstr x) ∧ n1 ≤ 9223372036854775807 := by
  simp only [tyMethod, Has, HasAll] at hT
  obtain ⟨ds, rfl, d0, r0, rfl, ⟨f0, rfl, hf0⟩, d1, r1, rfl, ⟨L1, rfl, hm1, ht1⟩, rfl⟩ := hT
  simp only [Lies, LiesAll] at h
  obtain ⟨e0, q0, rfl, rfl, e1, q1, rfl, ⟨A1, n1, c1, rfl, hn1, hh1⟩, rfl⟩ := h
  exact ⟨f0, L1, A1, n1, c1, rfl, rfl, hf0, (by rw [Lies]; exact ⟨A1, n1, c1, rfl, hn1, hh1⟩), ht1, (hn1 ▸ hm1)⟩
def GivesMethod (f0 : ByteArray) (L1 : List Dat) (n1 : Nat) (w : World) (e : Ending) (w' : World) : Prop := ∃ (B1 : Option Addr) (k1 : Nat), e = .returned (.agg #[.string f0, .slice B1 n1 k1]) ∧ Owns w' (.l L1) [.slice B1 n1 k1] (fun b => w.heap.size ≤ b ∧ b < w'.heap.size) ∧ Below w.heap.size w w'
set_option maxHeartbeats 2000000 in
theorem toMethod (f0 : ByteArray) (L1 : List Dat) (A1 : Option Addr) (n1 c1 : Nat) (w : World) (hl1 : Lies w (.l L1) [.slice A1 n1 c1]) (ht1 : ∀ x ∈ L1, Has tyInstr x) (hq1 : (Dat.l L1).bulk ≤ 1099511627776) : Calls Tryz.prog 108 #[.agg #[.string f0, .slice A1 n1 c1]] w (GivesMethod f0 L1 n1 w) := by
  have hb0 : Below w.heap.size w (((w.alloc (.cells #[.string f0, .slice A1 n1 c1] 122)).alloc (.cells #[.string ⟨#[]⟩, .slice none 0 0] 26)).alloc (.cells #[.string f0, .slice none 0 0] 26)) := by go_grown
  have HL := Lib.hid (hl1.below hb0)
  have HT := Lib.hid ht1
  have HB0 := Lib.hid hb0
  clear hl1 ht1 hb0
  go_enter Tryz.func108, Tryz.ntmps108
  go_wp2_with fail
  refine (toInstrS L1 A1 n1 c1 _ HL.out HT.out hq1).mono ?_
  rintro e w1 ⟨B1, m1, k1, rfl, hO, hb⟩
  obtain rfl : n1 = m1 := by rw [← hO.lies.count, ← HL.out.count]
  have y0 : w1.cell? ⟨w.heap.size + 1 + 1, 0, none⟩ = some (.string f0) := (hb.cell (p := ⟨w.heap.size + 1 + 1, 0, none⟩) (by simp; try omega)).trans (by simp [go_sem])
  have y1 : w1.cell? ⟨w.heap.size + 1 + 1, 1, none⟩ = some (.slice none 0 0) := (hb.cell (p := ⟨w.heap.size + 1 + 1, 1, none⟩) (by simp; try omega)).trans (by simp [go_sem])
  have z0 : w1.cell? ⟨w.heap.size + 1, 0, none⟩ = some (.string ⟨#[]⟩) := (hb.cell (p := ⟨w.heap.size + 1, 0, none⟩) (by simp; try omega)).trans (by simp [go_sem])
  have z1 : w1.cell? ⟨w.heap.size + 1, 1, none⟩ = some (.slice none 0 0) := (hb.cell (p := ⟨w.heap.size + 1, 1, none⟩) (by simp; try omega)).trans (by simp [go_sem])
  have x0 : w1.cell? ⟨w.heap.size, 0, none⟩ = some (.string f0) := (hb.cell (p := ⟨w.heap.size, 0, none⟩) (by simp; try omega)).trans (by simp [go_sem])
  have x1 : w1.cell? ⟨w.heap.size, 1, none⟩ = some (.slice A1 n1 c1) := (hb.cell (p := ⟨w.heap.size, 1, none⟩) (by simp; try omega)).trans (by simp [go_sem])
  have fy0 : w1.frozen? ⟨w.heap.size + 1 + 1, 0, none⟩ = false := (hb.frozen (p := ⟨w.heap.size + 1 + 1, 0, none⟩) (by simp; try omega)).trans (by simp [go_sem])
  have fz0 : w1.frozen? ⟨w.heap.size + 1, 0, none⟩ = false := (hb.frozen (p := ⟨w.heap.size + 1, 0, none⟩) (by simp; try omega)).trans (by simp [go_sem])
  have fy1 : w1.frozen? ⟨w.heap.size + 1 + 1, 1, none⟩ = false := (hb.frozen (p := ⟨w.heap.size + 1 + 1, 1, none⟩) (by simp; try omega)).trans (by simp [go_sem])
  have fz1 : w1.frozen? ⟨w.heap.size + 1, 1, none⟩ = false := (hb.frozen (p := ⟨w.heap.size + 1, 1, none⟩) (by simp; try omega)).trans (by simp [go_sem])
  have HO := Lib.hid hO
  have HB := Lib.hid (HB0.out.trans (hb.mono (by simp; try omega)))
  have hs1 := hb.size
  clear hb hO
  go_wp2_with fail
  refine bodyPost_ret (v := .agg #[.string f0, .slice B1 n1 k1]) (by simp [results, Tryz.results108, go_sem, y0, y1, z0, z1]) rfl ?_
  have hbw := HB.out
  refine ⟨B1, k1, rfl, ((HO.out.same (fun b hb _ => ?_)).mono (fun b hb => ?_)), by go_grown⟩
  · simp at hb
    repeat (rw [Below.heap_setCell _ _ _ _ (by simp; omega)])
  · simp at hb hs1 ⊢
    omega
theorem ownMethod {w : World} {Iv : Nat → Prop} {f0 : ByteArray} {L1 : List Dat} {B1 : Option Addr} {n1 k1 : Nat} (hO1 : Owns w (.l L1) [.slice B1 n1 k1] Iv) : Owns w (.r [.s f0, .l L1]) [.string f0, .slice B1 n1 k1] Iv := by
  exact ⟨[.string f0], _, (fun _ => False), Iv, rfl, (fun b hb => hb.elim), (fun b hb => hb), (fun b hb hb' => hb.elim), rfl, ⟨[.slice B1 n1 k1], _, Iv, (fun _ => False), rfl, (fun b hb => hb), (fun b hb => hb.elim), (fun b hb hb' => hb'.elim), hO1, rfl⟩⟩
theorem zeroMethod (w : World) : Owns w (.r [.s ⟨#[]⟩, .l []]) (#[.string ⟨#[]⟩, .slice none 0 0] : Array Value).toList (fun _ => False) := by
  exact ⟨[.string ⟨#[]⟩], _, (fun _ => False), (fun _ => False), rfl, (fun b hb => hb), (fun b hb => hb), (fun b hb _ => hb), rfl, ⟨[.slice none 0 0], _, (fun _ => False), (fun _ => False), rfl, (fun b hb => hb), (fun b hb => hb), (fun b hb _ => hb), ⟨none, 0, 0, rfl, rfl, Or.inl rfl⟩, rfl⟩⟩
theorem infoMethod : (Tryz.prog.info? 26).map (fun i => (i.zero, i.size, i.bytes)) = some (some (.agg #[.string ⟨#[]⟩, .slice none 0 0]), 2, 40) := by kernel_rfl
set_option maxRecDepth 100000 in
set_option maxHeartbeats 2000000 in
theorem toMethodS (L : List Dat) (A : Option Addr) (n c : Nat) (w : World) (h : Lies w (.l L) [.slice A n c]) (ht : ∀ x ∈ L, Has tyMethod x) (hq : (Dat.l L).bulk ≤ 1099511627776) : Calls Tryz.prog 87 #[.slice A n c] w (FreshD L w) := by
  obtain ⟨i0, hi, hz0, hz1, hz2⟩ := info_parts infoMethod
  have H := Lib.hid h
  have HT := Lib.hid ht
  have hn : n ≤ 1099511627776 := by have := h.count; simp only [Dat.bulk] at hq; omega
  clear h ht
  go_enter Tryz.func87, Tryz.ntmps87
  go_wp2_with (refine wpList_make_full _ rfl _ _ 35 rfl w.heap.size 26 i0 (.agg #[.string ⟨#[]⟩, .slice none 0 0]) 2 Tryz.underlying35 hi hz0 hz1 _ _ (n : Int) (n : Int) n rfl rfl rfl rfl (by rw [hz2]; omega) (by unfold maxLen; omega) (Nat.le_refl _) ?_)
  intro w1 hown hgrow
  have hU : UptoD w 2 L w.heap.size n 0 w1 := UptoD.start (zc := #[.string ⟨#[]⟩, .slice none 0 0]) (zeroMethod) rfl hown (Nat.le_refl _) ((Below.refl w.heap.size w).grown hgrow (Nat.le_refl _) (fun k h => by cases h))
  clear hown hgrow
  go_wp2
  go_loopw [4] (fun iv wr => ∃ i : Nat, i ≤ n ∧ iv = .int .i64 i ∧ UptoD w 2 L w.heap.size n i wr) (fun iv _ => n - (intOf iv).toNat)
  case atStart => exact ⟨0, Nat.zero_le _, rfl, hU⟩
  case round =>
    obtain ⟨i, hin, rfl, hUr⟩ := hrel
    clear hU
    by_cases hlt : i < n
    · have hUr' := Lib.hid hUr
      obtain ⟨ds, B, -, -, -, -, -, hb⟩ := hUr
      obtain ⟨b, off, d, xs, rfl, hbw, hzi, hlie, hlen, hcell⟩ := (H.out.below hb).elem (fun x hx => (HT.out x hx).width) hlt
      obtain ⟨f0, L1, A1, n1, c1, rfl, rfl, hf0, hl1, ht1, hm1⟩ := invMethod (HT.out d (List.mem_of_getElem? hzi)) hlie
      have r0 : wr.cell? ⟨b, off + i * 2, none⟩ = some (.string f0) := hcell 0 _ rfl
      have r1 : wr.cell? ⟨b, off + i * 2 + 1, none⟩ = some (.slice A1 n1 c1) := hcell 1 _ rfl
      have hq1 : (Dat.l L1).bulk ≤ 1099511627776 := by have h1 := bulk_mem (List.mem_of_getElem? hzi); simp only [Dat.bulk, bulkAll] at h1 hq ⊢; omega
      have HZ := Lib.hid hzi
      have HW := Lib.hid ((HT.out _ (List.mem_of_getElem? hzi)).width)
      have HBR := Lib.hid hb
      have HL1 := Lib.hid hl1
      have HX1 := Lib.hid ht1
      clear hzi hb hcell hlie hl1 ht1
      go_wp2_with (
        with_reducible refine (toMethod f0 L1 A1 n1 c1 _ HL1.out HX1.out hq1).mono ?_
        rintro e w2 ⟨B1, k1, rfl, hO1, hb2⟩
        have hsl := hUr'.out.slot hlt hb2
        obtain ⟨u0, s0⟩ : ∃ u, w2.cell? ⟨w.heap.size, i * 2, none⟩ = some u := hsl.1 0 (by omega)
        have t0 := hsl.2 (i * 2)
        obtain ⟨u1, s1⟩ : ∃ u, w2.cell? ⟨w.heap.size, i * 2 + 1, none⟩ = some u := hsl.1 1 (by omega)
        have t1 := hsl.2 (i * 2 + 1)
        have HN := Lib.hid (UptoD.next hUr'.out hlt HZ.out HW.out (ownMethod hO1) (fun b hb => hb) hb2)
        clear hsl hb2 hO1)
      go_roundw
      case rel => exact ⟨i + 1, by omega, by go_num, HN.out⟩
      case measure => simp [intOf]; omega
    · obtain rfl : i = n := by omega
      have hUr' := Lib.hid hUr
      clear hUr
      go_wp2_with fail
      go_ret
      exact hUr'.out.ret H.out.count
def tyScript : Ty := .rcd [.str, .sl tyMethod]
theorem tiedScript : tiedB Tryz.prog tyScript 75 = true := by kernel_rfl
theorem widthScript : tyScript.width = 2 := rfl
theorem invScript {w : World} {d : Dat} {xs : List Value} (hT : Has tyScript d) (h : Lies w d xs) : ∃ (f0 : ByteArray) (L1 : List Dat) (A1 : Option Addr) (n1 c1 : Nat), d = .r [.s f0, .l L1] ∧ xs = [.string f0, .slice A1 n1 c1] ∧ f0.size ≤ 9223372036854775807 ∧ Lies w (.l L1) [.slice A1 n1 c1] ∧ (∀ x ∈ L1, Has tyMethod x) ∧ n1 ≤ 9223372036854775807 := by
  simp only [tyScript, Has, HasAll] at hT
  obtain ⟨ds, rfl, d0, r0, rfl, ⟨f0, rfl, hf0⟩, d1, r1, rfl, ⟨L1, rfl, hm1, ht1⟩, rfl⟩ := hT
  simp only [Lies, LiesAll] at h
  obtain ⟨e0, q0, rfl, rfl, e1, q1, rfl, ⟨A1, n1, c1, rfl, hn1, hh1⟩, rfl⟩ := h
  exact ⟨f0, L1, A1, n1, c1, rfl, rfl, hf0, (by rw [Lies]; exact ⟨A1, n1, c1, rfl, hn1, hh1⟩), ht1, (hn1 ▸ hm1)⟩
def GivesScript (f0 : ByteArray) (L1 : List Dat) (n1 : Nat) (w : World) (e : Ending) (w' : World) : Prop := ∃ (B1 : Option Addr) (k1 : Nat), e = .returned (.agg #[.string f0, .slice B1 n1 k1]) ∧ Owns w' (.l L1) [.slice B1 n1 k1] (fun b => w.heap.size ≤ b ∧ b < w'.heap.size) ∧ Below w.heap.size w w'
set_option maxHeartbeats 2000000 in
theorem toScript (f0 : ByteArray) (L1 : List Dat) (A1 : Option Addr) (n1 c1 : Nat) (w : World) (hl1 : Lies w (.l L1) [.slice A1 n1 c1]) (ht1 : ∀ x ∈ L1, Has tyMethod x) (hq1 : (Dat.l L1).bulk ≤ 1099511627776) : Calls Tryz.prog 50 #[.agg #[.string f0, .slice A1 n1 c1]] w (GivesScript f0 L1 n1 w) := by
  have hb0 : Below w.heap.size w (((w.alloc (.cells #[.string f0, .slice A1 n1 c1] 75)).alloc (.cells #[.string ⟨#[]⟩, .slice none 0 0] 37)).alloc (.cells #[.string f0, .slice none 0 0] 37)) := by go_grown
  have HL := Lib.hid (hl1.below hb0)
  have HT := Lib.hid ht1
  have HB0 := Lib.hid hb0
  clear hl1 ht1 hb0
  go_enter Tryz.func50, Tryz.ntmps50
  go_wp2_with fail
  refine (toMethodS L1 A1 n1 c1 _ HL.out HT.out hq1).mono ?_
  rintro e w1 ⟨B1, m1, k1, rfl, hO, hb⟩
  obtain rfl : n1 = m1 := by rw [← hO.lies.count, ← HL.out.count]
  have y0 : w1.cell? ⟨w.heap.size + 1 + 1, 0, none⟩ = some (.string f0) := (hb.cell (p := ⟨w.heap.size + 1 + 1, 0, none⟩) (by simp; try omega)).trans (by simp [go_sem])
  have y1 : w1.cell? ⟨w.heap.size + 1 + 1, 1, none⟩ = some (.slice none 0 0) := (hb.cell (p := ⟨w.heap.size + 1 + 1, 1, none⟩) (by simp; try omega)).trans (by simp [go_sem])
  have z0 : w1.cell? ⟨w.heap.size + 1, 0, none⟩ = some (.string ⟨#[]⟩) := (hb.cell (p := ⟨w.heap.size + 1, 0, none⟩) (by simp; try omega)).trans (by simp [go_sem])
  have z1 : w1.cell? ⟨w.heap.size + 1, 1, none⟩ = some (.slice none 0 0) := (hb.cell (p := ⟨w.heap.size + 1, 1, none⟩) (by simp; try omega)).trans (by simp [go_sem])
  have x0 : w1.cell? ⟨w.heap.size, 0, none⟩ = some (.string f0) := (hb.cell (p := ⟨w.heap.size, 0, none⟩) (by simp; try omega)).trans (by simp [go_sem])
  have x1 : w1.cell? ⟨w.heap.size, 1, none⟩ = some (.slice A1 n1 c1) := (hb.cell (p := ⟨w.heap.size, 1, none⟩) (by simp; try omega)).trans (by simp [go_sem])
  have fy0 : w1.frozen? ⟨w.heap.size + 1 + 1, 0, none⟩ = false := (hb.frozen (p := ⟨w.heap.size + 1 + 1, 0, none⟩) (by simp; try omega)).trans (by simp [go_sem])
  have fz0 : w1.frozen? ⟨w.heap.size + 1, 0, none⟩ = false := (hb.frozen (p := ⟨w.heap.size + 1, 0, none⟩) (by simp; try omega)).trans (by simp [go_sem])
  have fy1 : w1.frozen? ⟨w.heap.size + 1 + 1, 1, none⟩ = false := (hb.frozen (p := ⟨w.heap.size + 1 + 1, 1, none⟩) (by simp; try omega)).trans (by simp [go_sem])
  have fz1 : w1.frozen? ⟨w.heap.size + 1, 1, none⟩ = false := (hb.frozen (p := ⟨w.heap.size + 1, 1, none⟩) (by simp; try omega)).trans (by simp [go_sem])
  have HO := Lib.hid hO
  have HB := Lib.hid (HB0.out.trans (hb.mono (by simp; try omega)))
  have hs1 := hb.size
  clear hb hO
  go_wp2_with fail
  refine bodyPost_ret (v := .agg #[.string f0, .slice B1 n1 k1]) (by simp [results, Tryz.results50, go_sem, y0, y1, z0, z1]) rfl ?_
  have hbw := HB.out
  refine ⟨B1, k1, rfl, ((HO.out.same (fun b hb _ => ?_)).mono (fun b hb => ?_)), by go_grown⟩
  · simp at hb
    repeat (rw [Below.heap_setCell _ _ _ _ (by simp; omega)])
  · simp at hb hs1 ⊢
    omega
theorem ownScript {w : World} {Iv : Nat → Prop} {f0 : ByteArray} {L1 : List Dat} {B1 : Option Addr} {n1 k1 : Nat} (hO1 : Owns w (.l L1) [.slice B1 n1 k1] Iv) : Owns w (.r [.s f0, .l L1]) [.string f0, .slice B1 n1 k1] Iv := by
  exact ⟨[.string f0], _, (fun _ => False), Iv, rfl, (fun b hb => hb.elim), (fun b hb => hb), (fun b hb hb' => hb.elim), rfl, ⟨[.slice B1 n1 k1], _, Iv, (fun _ => False), rfl, (fun b hb => hb), (fun b hb => hb.elim), (fun b hb hb' => hb'.elim), hO1, rfl⟩⟩
theorem zeroScript (w : World) : Owns w (.r [.s ⟨#[]⟩, .l []]) (#[.string ⟨#[]⟩, .slice none 0 0] : Array Value).toList (fun _ => False) := by
  exact ⟨[.string ⟨#[]⟩], _, (fun _ => False), (fun _ => False), rfl, (fun b hb => hb), (fun b hb => hb), (fun b hb _ => hb), rfl, ⟨[.slice none 0 0], _, (fun _ => False), (fun _ => False), rfl, (fun b hb => hb), (fun b hb => hb), (fun b hb _ => hb), ⟨none, 0, 0, rfl, rfl, Or.inl rfl⟩, rfl⟩⟩
theorem infoScript : (Tryz.prog.info? 37).map (fun i => (i.zero, i.size, i.bytes)) = some (some (.agg #[.string ⟨#[]⟩, .slice none 0 0]), 2, 40) := by kernel_rfl
set_option maxRecDepth 100000 in
set_option maxHeartbeats 2000000 in
theorem toScriptS (L : List Dat) (A : Option Addr) (n c : Nat) (w : World) (h : Lies w (.l L) [.slice A n c]) (ht : ∀ x ∈ L, Has tyScript x) (hq : (Dat.l L).bulk ≤ 1099511627776) : Calls Tryz.prog 21 #[.slice A n c] w (FreshD L w) := by
  obtain ⟨i0, hi, hz0, hz1, hz2⟩ := info_parts infoScript
  have H := Lib.hid h
  have HT := Lib.hid ht
  have hn : n ≤ 1099511627776 := by have := h.count; simp only [Dat.bulk] at hq; omega
  clear h ht
  go_enter Tryz.func21, Tryz.ntmps21
  go_wp2_with (refine wpList_make_full _ rfl _ _ 33 rfl w.heap.size 37 i0 (.agg #[.string ⟨#[]⟩, .slice none 0 0]) 2 Tryz.underlying33 hi hz0 hz1 _ _ (n : Int) (n : Int) n rfl rfl rfl rfl (by rw [hz2]; omega) (by unfold maxLen; omega) (Nat.le_refl _) ?_)
  intro w1 hown hgrow
  have hU : UptoD w 2 L w.heap.size n 0 w1 := UptoD.start (zc := #[.string ⟨#[]⟩, .slice none 0 0]) (zeroScript) rfl hown (Nat.le_refl _) ((Below.refl w.heap.size w).grown hgrow (Nat.le_refl _) (fun k h => by cases h))
  clear hown hgrow
  go_wp2
  go_loopw [4] (fun iv wr => ∃ i : Nat, i ≤ n ∧ iv = .int .i64 i ∧ UptoD w 2 L w.heap.size n i wr) (fun iv _ => n - (intOf iv).toNat)
  case atStart => exact ⟨0, Nat.zero_le _, rfl, hU⟩
  case round =>
    obtain ⟨i, hin, rfl, hUr⟩ := hrel
    clear hU
    by_cases hlt : i < n
    · have hUr' := Lib.hid hUr
      obtain ⟨ds, B, -, -, -, -, -, hb⟩ := hUr
      obtain ⟨b, off, d, xs, rfl, hbw, hzi, hlie, hlen, hcell⟩ := (H.out.below hb).elem (fun x hx => (HT.out x hx).width) hlt
      obtain ⟨f0, L1, A1, n1, c1, rfl, rfl, hf0, hl1, ht1, hm1⟩ := invScript (HT.out d (List.mem_of_getElem? hzi)) hlie
      have r0 : wr.cell? ⟨b, off + i * 2, none⟩ = some (.string f0) := hcell 0 _ rfl
      have r1 : wr.cell? ⟨b, off + i * 2 + 1, none⟩ = some (.slice A1 n1 c1) := hcell 1 _ rfl
      have hq1 : (Dat.l L1).bulk ≤ 1099511627776 := by have h1 := bulk_mem (List.mem_of_getElem? hzi); simp only [Dat.bulk, bulkAll] at h1 hq ⊢; omega
      have HZ := Lib.hid hzi
      have HW := Lib.hid ((HT.out _ (List.mem_of_getElem? hzi)).width)
      have HBR := Lib.hid hb
      have HL1 := Lib.hid hl1
      have HX1 := Lib.hid ht1
      clear hzi hb hcell hlie hl1 ht1
      go_wp2_with (
        with_reducible refine (toScript f0 L1 A1 n1 c1 _ HL1.out HX1.out hq1).mono ?_
        rintro e w2 ⟨B1, k1, rfl, hO1, hb2⟩
        have hsl := hUr'.out.slot hlt hb2
        obtain ⟨u0, s0⟩ : ∃ u, w2.cell? ⟨w.heap.size, i * 2, none⟩ = some u := hsl.1 0 (by omega)
        have t0 := hsl.2 (i * 2)
        obtain ⟨u1, s1⟩ : ∃ u, w2.cell? ⟨w.heap.size, i * 2 + 1, none⟩ = some u := hsl.1 1 (by omega)
        have t1 := hsl.2 (i * 2 + 1)
        have HN := Lib.hid (UptoD.next hUr'.out hlt HZ.out HW.out (ownScript hO1) (fun b hb => hb) hb2)
        clear hsl hb2 hO1)
      go_roundw
      case rel => exact ⟨i + 1, by omega, by go_num, HN.out⟩
      case measure => simp [intOf]; omega
    · obtain rfl : i = n := by omega
      have hUr' := Lib.hid hUr
      clear hUr
      go_wp2_with fail
      go_ret
      exact hUr'.out.ret H.out.count
end Go.Proofs.YtgibhbplgiejpaaGreat
namespace Go.Proofs.YtgibhbplgiejpaaGreat
open Go.RowKit
set_option linter.unusedVariables false
set_option linter.unusedSimpArgs false
theorem Lies.drew {w : World} {d : Dat} {cs : List Value} (h : Lies w d cs) : Lies w.drew d cs := h.below (Below.refl _ _).drew
set_option maxHeartbeats 1000000 in
theorem eqInstr (f0 : Int) (f1 : Int) (f2 : Int) (f3 : Int) (f4 : Int) (f5 : ByteArray) (w : World) : Calls Tryz.prog 129 #[.agg #[.int .i64 f0, .int .i64 f1, .int .i64 f2, .int .i64 f3, .int .i64 f4, .string f5], .agg #[.int .i64 f0, .int .i64 f1, .int .i64 f2, .int .i64 f3, .int .i64 f4, .string f5]] w (GivesBool true w) := by
  go_enter Tryz.func129, Tryz.ntmps129
  go_wp2
  go_ret
  exact GivesBool.ret (by go_grown)
set_option maxRecDepth 100000 in
set_option maxHeartbeats 2000000 in
theorem eqInstrS (L : List Dat) (A A' : Option Addr) (n n' c c' : Nat) (w : World) (h : Lies w (.l L) [.slice A n c]) (h' : Lies w (.l L) [.slice A' n' c']) (ht : ∀ x ∈ L, Has tyInstr x) (hn : n ≤ 9223372036854775807) : Calls Tryz.prog 119 #[.slice A n c, .slice A' n' c'] w (GivesBool true w) := by
  obtain rfl : n = n' := by rw [← h.count, ← h'.count]
  have H := Lib.hid h
  have H' := Lib.hid h'
  have HT := Lib.hid ht
  clear h h' ht
  go_enter Tryz.func119, Tryz.ntmps119
  go_wp2
  go_loopw [5] (fun iv wr => ∃ i : Nat, i ≤ n ∧ iv = .int .i64 i ∧ Below w.heap.size w wr) (fun iv _ => n - (intOf iv).toNat)
  case atStart => exact ⟨0, Nat.zero_le _, rfl, Below.refl _ _⟩
  case round =>
    obtain ⟨i, hin, rfl, hb⟩ := hrel
    by_cases hlt : i < n
    · obtain ⟨b, off, d, xs, rfl, hbw, hzi, hlie, hlen, hcellr⟩ := (H.out.below hb).elem (fun x hx => (HT.out x hx).width) hlt
      obtain ⟨b', off', d', xs', rfl, hbw', hzi', hlie', hlen', hcells⟩ := (H'.out.below hb).elem (fun x hx => (HT.out x hx).width) hlt
      obtain rfl : d = d' := by rw [hzi] at hzi'; exact Option.some.inj hzi'
      obtain ⟨g0, g1, g2, g3, g4, g5, hdd, rfl, _hf5⟩ := invInstr (HT.out d (List.mem_of_getElem? hzi)) hlie'
      obtain ⟨f0, f1, f2, f3, f4, f5, rfl, rfl, hf5⟩ := invInstr (HT.out d (List.mem_of_getElem? hzi)) hlie
      simp only [Dat.r.injEq, List.cons.injEq, and_true] at hdd
      obtain ⟨e0, e1, e2, e3, e4, e5⟩ := hdd
      obtain rfl : f0 = g0 := by injection e0
      obtain rfl : f1 = g1 := by injection e1
      obtain rfl : f2 = g2 := by injection e2
      obtain rfl : f3 = g3 := by injection e3
      obtain rfl : f4 = g4 := by injection e4
      obtain rfl : f5 = g5 := by injection e5
      have r0 : wr.cell? ⟨b, off + i * 6, none⟩ = some (.int .i64 f0) := hcellr 0 _ rfl
      have r1 : wr.cell? ⟨b, off + i * 6 + 1, none⟩ = some (.int .i64 f1) := hcellr 1 _ rfl
      have r2 : wr.cell? ⟨b, off + i * 6 + 2, none⟩ = some (.int .i64 f2) := hcellr 2 _ rfl
      have r3 : wr.cell? ⟨b, off + i * 6 + 3, none⟩ = some (.int .i64 f3) := hcellr 3 _ rfl
      have r4 : wr.cell? ⟨b, off + i * 6 + 4, none⟩ = some (.int .i64 f4) := hcellr 4 _ rfl
      have r5 : wr.cell? ⟨b, off + i * 6 + 5, none⟩ = some (.string f5) := hcellr 5 _ rfl
      have s0 : wr.cell? ⟨b', off' + i * 6, none⟩ = some (.int .i64 f0) := hcells 0 _ rfl
      have s1 : wr.cell? ⟨b', off' + i * 6 + 1, none⟩ = some (.int .i64 f1) := hcells 1 _ rfl
      have s2 : wr.cell? ⟨b', off' + i * 6 + 2, none⟩ = some (.int .i64 f2) := hcells 2 _ rfl
      have s3 : wr.cell? ⟨b', off' + i * 6 + 3, none⟩ = some (.int .i64 f3) := hcells 3 _ rfl
      have s4 : wr.cell? ⟨b', off' + i * 6 + 4, none⟩ = some (.int .i64 f4) := hcells 4 _ rfl
      have s5 : wr.cell? ⟨b', off' + i * 6 + 5, none⟩ = some (.string f5) := hcells 5 _ rfl
      have HBR := Lib.hid hb
      clear hzi hzi' hb hcellr hcells hlie hlie'
      go_wp2_with fail
      go_region_with (
        go_at_call 129
        refine (eqInstr f0 f1 f2 f3 f4 f5 _).mono ?_
        rintro e w2 ⟨rfl, hb2⟩
        have HB2 : Hid (Below w.heap.size w w2) := Lib.hid (HBR.out.drew.trans (hb2.mono HBR.out.size))
        clear hb2)
      all_goals (
        go_wp2_with fail
        go_roundw
        case rel => exact ⟨i + 1, by omega, by go_num, HB2.out⟩
        case measure => simp [intOf]; omega)
    · have HB := Lib.hid hb
      clear hb
      go_wp2
      go_ret
      exact GivesBool.ret HB.out
set_option maxHeartbeats 1000000 in
theorem eqMethod (f0 : ByteArray) (L1 : List Dat) (A1 : Option Addr) (n1 c1 : Nat) (B1 : Option Addr) (k1 : Nat) (w : World) (hl1 : Lies w (.l L1) [.slice A1 n1 c1]) (hr1 : Lies w (.l L1) [.slice B1 n1 k1]) (ht1 : ∀ x ∈ L1, Has tyInstr x) (hm1 : n1 ≤ 9223372036854775807) : Calls Tryz.prog 109 #[.agg #[.string f0, .slice A1 n1 c1], .agg #[.string f0, .slice B1 n1 k1]] w (GivesBool true w) := by
  have hb0 : Below w.heap.size w ((w.alloc (.cells #[.string f0, .slice A1 n1 c1] 26)).alloc (.cells #[.string f0, .slice B1 n1 k1] 26)) := by go_grown
  have HL := Lib.hid (hl1.below hb0)
  have HR := Lib.hid (hr1.below hb0)
  have HT := Lib.hid ht1
  have HB0 := Lib.hid hb0
  clear hl1 hr1 ht1 hb0
  go_enter Tryz.func109, Tryz.ntmps109
  go_wp2_with fail
  refine (eqInstrS L1 A1 B1 n1 n1 c1 k1 _ HL.out HR.out HT.out hm1).mono ?_
  rintro e w1 ⟨rfl, hb⟩
  have HB := Lib.hid (HB0.out.trans (hb.mono (by simp; try omega)))
  clear hb
  go_wp2_with fail
  go_ret
  exact GivesBool.ret HB.out
set_option maxRecDepth 100000 in
set_option maxHeartbeats 2000000 in
theorem eqMethodS (L : List Dat) (A A' : Option Addr) (n n' c c' : Nat) (w : World) (h : Lies w (.l L) [.slice A n c]) (h' : Lies w (.l L) [.slice A' n' c']) (ht : ∀ x ∈ L, Has tyMethod x) (hn : n ≤ 9223372036854775807) : Calls Tryz.prog 88 #[.slice A n c, .slice A' n' c'] w (GivesBool true w) := by
  obtain rfl : n = n' := by rw [← h.count, ← h'.count]
  have H := Lib.hid h
  have H' := Lib.hid h'
  have HT := Lib.hid ht
  clear h h' ht
  go_enter Tryz.func88, Tryz.ntmps88
  go_wp2
  go_loopw [5] (fun iv wr => ∃ i : Nat, i ≤ n ∧ iv = .int .i64 i ∧ Below w.heap.size w wr) (fun iv _ => n - (intOf iv).toNat)
  case atStart => exact ⟨0, Nat.zero_le _, rfl, Below.refl _ _⟩
  case round =>
    obtain ⟨i, hin, rfl, hb⟩ := hrel
    by_cases hlt : i < n
    · obtain ⟨b, off, d, xs, rfl, hbw, hzi, hlie, hlen, hcellr⟩ := (H.out.below hb).elem (fun x hx => (HT.out x hx).width) hlt
      obtain ⟨b', off', d', xs', rfl, hbw', hzi', hlie', hlen', hcells⟩ := (H'.out.below hb).elem (fun x hx => (HT.out x hx).width) hlt
      obtain rfl : d = d' := by rw [hzi] at hzi'; exact Option.some.inj hzi'
      obtain ⟨g0, M1, B1, m1, k1, hdd, rfl, _hf0, hr1, _hu1, _hv1⟩ := invMethod (HT.out d (List.mem_of_getElem? hzi)) hlie'
      obtain ⟨f0, L1, A1, n1, c1, rfl, rfl, hf0, hl1, ht1, hm1⟩ := invMethod (HT.out d (List.mem_of_getElem? hzi)) hlie
      simp only [Dat.r.injEq, List.cons.injEq, and_true] at hdd
      obtain ⟨e0, e1⟩ := hdd
      obtain rfl : f0 = g0 := by injection e0
      obtain rfl : L1 = M1 := by injection e1
      obtain rfl : n1 = m1 := by rw [← hl1.count, ← hr1.count]
      have r0 : wr.cell? ⟨b, off + i * 2, none⟩ = some (.string f0) := hcellr 0 _ rfl
      have r1 : wr.cell? ⟨b, off + i * 2 + 1, none⟩ = some (.slice A1 n1 c1) := hcellr 1 _ rfl
      have s0 : wr.cell? ⟨b', off' + i * 2, none⟩ = some (.string f0) := hcells 0 _ rfl
      have s1 : wr.cell? ⟨b', off' + i * 2 + 1, none⟩ = some (.slice B1 n1 k1) := hcells 1 _ rfl
      have HBR := Lib.hid hb
      have HL1 := Lib.hid (hl1.drew)
      have HR1 := Lib.hid (hr1.drew)
      have HX1 := Lib.hid ht1
      clear hzi hzi' hb hcellr hcells hlie hlie' hl1 hr1 ht1 _hu1
      go_wp2_with fail
      go_region_with (
        go_at_call 109
        refine (eqMethod f0 L1 A1 n1 c1 B1 k1 _ HL1.out HR1.out HX1.out hm1).mono ?_
        rintro e w2 ⟨rfl, hb2⟩
        have HB2 : Hid (Below w.heap.size w w2) := Lib.hid (HBR.out.drew.trans (hb2.mono HBR.out.size))
        clear hb2)
      all_goals (
        go_wp2_with fail
        go_roundw
        case rel => exact ⟨i + 1, by omega, by go_num, HB2.out⟩
        case measure => simp [intOf]; omega)
    · have HB := Lib.hid hb
      clear hb
      go_wp2
      go_ret
      exact GivesBool.ret HB.out
set_option maxHeartbeats 1000000 in
theorem eqScript (f0 : ByteArray) (L1 : List Dat) (A1 : Option Addr) (n1 c1 : Nat) (B1 : Option Addr) (k1 : Nat) (w : World) (hl1 : Lies w (.l L1) [.slice A1 n1 c1]) (hr1 : Lies w (.l L1) [.slice B1 n1 k1]) (ht1 : ∀ x ∈ L1, Has tyMethod x) (hm1 : n1 ≤ 9223372036854775807) : Calls Tryz.prog 51 #[.agg #[.string f0, .slice A1 n1 c1], .agg #[.string f0, .slice B1 n1 k1]] w (GivesBool true w) := by
  have hb0 : Below w.heap.size w ((w.alloc (.cells #[.string f0, .slice A1 n1 c1] 37)).alloc (.cells #[.string f0, .slice B1 n1 k1] 37)) := by go_grown
  have HL := Lib.hid (hl1.below hb0)
  have HR := Lib.hid (hr1.below hb0)
  have HT := Lib.hid ht1
  have HB0 := Lib.hid hb0
  clear hl1 hr1 ht1 hb0
  go_enter Tryz.func51, Tryz.ntmps51
  go_wp2_with fail
  refine (eqMethodS L1 A1 B1 n1 n1 c1 k1 _ HL.out HR.out HT.out hm1).mono ?_
  rintro e w1 ⟨rfl, hb⟩
  have HB := Lib.hid (HB0.out.trans (hb.mono (by simp; try omega)))
  clear hb
  go_wp2_with fail
  go_ret
  exact GivesBool.ret HB.out
set_option maxRecDepth 100000 in
set_option maxHeartbeats 2000000 in
theorem eqScriptS (L : List Dat) (A A' : Option Addr) (n n' c c' : Nat) (w : World) (h : Lies w (.l L) [.slice A n c]) (h' : Lies w (.l L) [.slice A' n' c']) (ht : ∀ x ∈ L, Has tyScript x) (hn : n ≤ 9223372036854775807) : Calls Tryz.prog 22 #[.slice A n c, .slice A' n' c'] w (GivesBool true w) := by
  obtain rfl : n = n' := by rw [← h.count, ← h'.count]
  have H := Lib.hid h
  have H' := Lib.hid h'
  have HT := Lib.hid ht
  clear h h' ht
  go_enter Tryz.func22, Tryz.ntmps22
  go_wp2
  go_loopw [5] (fun iv wr => ∃ i : Nat, i ≤ n ∧ iv = .int .i64 i ∧ Below w.heap.size w wr) (fun iv _ => n - (intOf iv).toNat)
  case atStart => exact ⟨0, Nat.zero_le _, rfl, Below.refl _ _⟩
  case round =>
    obtain ⟨i, hin, rfl, hb⟩ := hrel
    by_cases hlt : i < n
    · obtain ⟨b, off, d, xs, rfl, hbw, hzi, hlie, hlen, hcellr⟩ := (H.out.below hb).elem (fun x hx => (HT.out x hx).width) hlt
      obtain ⟨b', off', d', xs', rfl, hbw', hzi', hlie', hlen', hcells⟩ := (H'.out.below hb).elem (fun x hx => (HT.out x hx).width) hlt
      obtain rfl : d = d' := by rw [hzi] at hzi'; exact Option.some.inj hzi'
      obtain ⟨g0, M1, B1, m1, k1, hdd, rfl, _hf0, hr1, _hu1, _hv1⟩ := invScript (HT.out d (List.mem_of_getElem? hzi)) hlie'
      obtain ⟨f0, L1, A1, n1, c1, rfl, rfl, hf0, hl1, ht1, hm1⟩ := invScript (HT.out d (List.mem_of_getElem? hzi)) hlie
      simp only [Dat.r.injEq, List.cons.injEq, and_true] at hdd
      obtain ⟨e0, e1⟩ := hdd
      obtain rfl : f0 = g0 := by injection e0
      obtain rfl : L1 = M1 := by injection e1
      obtain rfl : n1 = m1 := by rw [← hl1.count, ← hr1.count]
      have r0 : wr.cell? ⟨b, off + i * 2, none⟩ = some (.string f0) := hcellr 0 _ rfl
      have r1 : wr.cell? ⟨b, off + i * 2 + 1, none⟩ = some (.slice A1 n1 c1) := hcellr 1 _ rfl
      have s0 : wr.cell? ⟨b', off' + i * 2, none⟩ = some (.string f0) := hcells 0 _ rfl
      have s1 : wr.cell? ⟨b', off' + i * 2 + 1, none⟩ = some (.slice B1 n1 k1) := hcells 1 _ rfl
      have HBR := Lib.hid hb
      have HL1 := Lib.hid (hl1.drew)
      have HR1 := Lib.hid (hr1.drew)
      have HX1 := Lib.hid ht1
      clear hzi hzi' hb hcellr hcells hlie hlie' hl1 hr1 ht1 _hu1
      go_wp2_with fail
      go_region_with (
        go_at_call 51
        refine (eqScript f0 L1 A1 n1 c1 B1 k1 _ HL1.out HR1.out HX1.out hm1).mono ?_
        rintro e w2 ⟨rfl, hb2⟩
        have HB2 : Hid (Below w.heap.size w w2) := Lib.hid (HBR.out.drew.trans (hb2.mono HBR.out.size))
        clear hb2)
      all_goals (
        go_wp2_with fail
        go_roundw
        case rel => exact ⟨i + 1, by omega, by go_num, HB2.out⟩
        case measure => simp [intOf]; omega)
    · have HB := Lib.hid hb
      clear hb
      go_wp2
      go_ret
      exact GivesBool.ret HB.out
end Go.Proofs.YtgibhbplgiejpaaGreat
namespace Go.Proofs.YtgibhbplgiejpaaGreat
open Go.RowKit
set_option linter.unusedVariables false
set_option linter.unusedSimpArgs false
def leftD (d : Dat) (left : Int) : Int := if left - d.bulk < 0 then -1 else left - d.bulk
theorem leftD_no {d : Dat} {left : Int} (h : left - d.bulk < 0) : -1 = leftD d left := (if_pos h).symm
theorem leftD_ok {d : Dat} {left r : Int} (h : r = left - d.bulk) (h0 : 0 ≤ left - d.bulk) : r = leftD d left := by rw [leftD, if_neg (by omega), h]
theorem bulkAll_append : ∀ (a b : List Dat), bulkAll (a ++ b) = bulkAll a + bulkAll b
  | [], b => by simp [bulkAll]
  | x :: a, b => by rw [List.cons_append, bulkAll, bulkAll, bulkAll_append a b]; omega
theorem bulk_next {L : List Dat} {i : Nat} {d : Dat} (h : L[i]? = some d) : bulkAll (L.take (i + 1)) = bulkAll (L.take i) + d.bulk := by
  rw [List.take_add_one, h, bulkAll_append]
  simp [bulkAll]
theorem bulk_take_le (L : List Dat) (i : Nat) : bulkAll (L.take i) ≤ bulkAll L := by
  have h := bulkAll_append (L.take i) (L.drop i)
  rw [List.take_append_drop] at h
  omega
set_option maxHeartbeats 2000000 in
theorem szInstr (f0 : Int) (f1 : Int) (f2 : Int) (f3 : Int) (f4 : Int) (f5 : ByteArray) (left : Int) (w : World) (h0 : 0 ≤ left) (h1 : left ≤ 1099511627776) (hf5 : f5.size ≤ 9223372036854775807) : Calls Tryz.prog 127 #[.agg #[.int .i64 f0, .int .i64 f1, .int .i64 f2, .int .i64 f3, .int .i64 f4, .string f5], .int .i64 left] w (GivesInt (leftD (Dat.r [.i f0, .i f1, .i f2, .i f3, .i f4, .s f5]) left) w) := by
  have B0 : Below w.heap.size w (w.alloc (.cells #[.int .i64 f0, .int .i64 f1, .int .i64 f2, .int .i64 f3, .int .i64 f4, .string f5] 141)) := by go_grown
  have HB0 := Lib.hid B0
  go_enter Tryz.func127, Tryz.ntmps127
  by_cases g0 : left - f5.size < 0
  · go_wp2_with fail
    go_ret
    exact GivesInt.ret (leftD_no (by simp only [Dat.bulk, bulkAll]; omega)) (by go_grown)
  · skip
    go_wp2_with fail
    go_ret
    exact GivesInt.ret (leftD_ok (by simp only [Dat.bulk, bulkAll]; omega) (by simp only [Dat.bulk, bulkAll]; omega)) (by go_grown)
set_option maxRecDepth 100000 in
set_option maxHeartbeats 2000000 in
theorem szInstrS (L : List Dat) (A : Option Addr) (n c : Nat) (left : Int) (w : World) (h0 : 0 ≤ left) (h1 : left ≤ 1099511627776) (h : Lies w (.l L) [.slice A n c]) (ht : ∀ x ∈ L, Has tyInstr x) (hn : n ≤ 9223372036854775807) : Calls Tryz.prog 117 #[.slice A n c, .int .i64 left] w (GivesInt (leftD (Dat.l L) left) w) := by
  have H := Lib.hid h
  have HT := Lib.hid ht
  have hc := h.count
  have HC := Lib.hid hc
  clear h ht hc
  by_cases g0 : left - n < 0
  · go_enter Tryz.func117, Tryz.ntmps117
    go_wp2
    go_ret
    exact GivesInt.ret (leftD_no (by have := HC.out; simp only [Dat.bulk]; omega)) (Below.refl _ _)
  · go_enter Tryz.func117, Tryz.ntmps117
    go_wp2
    go_loopw [1, 5] (fun lv iv wr => ∃ (i : Nat) (r : Int), i ≤ n ∧ iv = .int .i64 i ∧ lv = .int .i64 r ∧ r = left - n - bulkAll (L.take i) ∧ 0 ≤ r ∧ r ≤ left ∧ Below w.heap.size w wr) (fun _ iv _ => n - (intOf iv).toNat)
    case atStart => exact ⟨0, left - n, Nat.zero_le _, rfl, rfl, by simp [bulkAll], by omega, by omega, Below.refl _ _⟩
    case round =>
      obtain ⟨i, r, hin, rfl, rfl, hr, hr0, hr1, hb⟩ := hrel
      have HR := Lib.hid hr
      clear hr
      by_cases hlt : i < n
      · obtain ⟨b, off, d, xs, rfl, hbw, hzi, hlie, hlen, hcell⟩ := (H.out.below hb).elem (fun x hx => (HT.out x hx).width) hlt
        obtain ⟨f0, f1, f2, f3, f4, f5, rfl, rfl, hf5⟩ := invInstr (HT.out d (List.mem_of_getElem? hzi)) hlie
        have r0 : wr.cell? ⟨b, off + i * 6, none⟩ = some (.int .i64 f0) := hcell 0 _ rfl
        have r1 : wr.cell? ⟨b, off + i * 6 + 1, none⟩ = some (.int .i64 f1) := hcell 1 _ rfl
        have r2 : wr.cell? ⟨b, off + i * 6 + 2, none⟩ = some (.int .i64 f2) := hcell 2 _ rfl
        have r3 : wr.cell? ⟨b, off + i * 6 + 3, none⟩ = some (.int .i64 f3) := hcell 3 _ rfl
        have r4 : wr.cell? ⟨b, off + i * 6 + 4, none⟩ = some (.int .i64 f4) := hcell 4 _ rfl
        have r5 : wr.cell? ⟨b, off + i * 6 + 5, none⟩ = some (.string f5) := hcell 5 _ rfl
        have HZ := Lib.hid (bulk_next hzi)
        have HM := Lib.hid (bulk_take_le L (i + 1))
        have HBR := Lib.hid hb
        clear hzi hb hcell hlie
        go_wp2_with fail
        refine (szInstr f0 f1 f2 f3 f4 f5 r _ hr0 (by omega) hf5).mono ?_
        rintro e w2 ⟨rfl, hb2⟩
        have HB2 := Lib.hid (HBR.out.trans (hb2.mono HBR.out.size))
        clear hb2
        by_cases g1 : r - (Dat.r [.i f0, .i f1, .i f2, .i f3, .i f4, .s f5]).bulk < 0
        · rw [show leftD (Dat.r [.i f0, .i f1, .i f2, .i f3, .i f4, .s f5]) r = -1 from if_pos g1]
          have hneg : left - (Dat.l L).bulk < 0 := by have h1 := HZ.out; have h2 := HM.out; have h3 := HC.out; have h4 := HR.out; rw [Dat.bulk]; omega
          go_wp2_with fail
          go_ret
          exact GivesInt.ret (leftD_no hneg) HB2.out
        · rw [show leftD (Dat.r [.i f0, .i f1, .i f2, .i f3, .i f4, .s f5]) r = r - (Dat.r [.i f0, .i f1, .i f2, .i f3, .i f4, .s f5]).bulk from if_neg g1]
          have HE : Hid (r - (Dat.r [.i f0, .i f1, .i f2, .i f3, .i f4, .s f5]).bulk = left - n - bulkAll (L.take (i + 1))) := Lib.hid (by have h1 := HZ.out; have h4 := HR.out; omega)
          have hp0 : 0 ≤ r - (Dat.r [.i f0, .i f1, .i f2, .i f3, .i f4, .s f5]).bulk := by omega
          have hp1 : r - (Dat.r [.i f0, .i f1, .i f2, .i f3, .i f4, .s f5]).bulk ≤ left := by omega
          generalize r - (Dat.r [.i f0, .i f1, .i f2, .i f3, .i f4, .s f5]).bulk = rr at *
          go_wp2_with fail
          go_roundw
          case rel => exact ⟨i + 1, rr, by omega, by go_num, rfl, HE.out, hp0, hp1, HB2.out⟩
          case measure => simp [intOf]; omega
      · obtain rfl : i = n := by omega
        have HBR := Lib.hid hb
        clear hb
        have hE : r = leftD (Dat.l L) left := by
          have h4 := HR.out
          have h3 := HC.out
          rw [List.take_of_length_le (by omega)] at h4
          rw [leftD, if_neg (by rw [Dat.bulk]; omega), Dat.bulk]
          omega
        have HE := Lib.hid hE
        clear hE
        go_wp2_with fail
        go_ret
        exact GivesInt.ret HE.out HBR.out
set_option maxHeartbeats 2000000 in
theorem szMethod (f0 : ByteArray) (L1 : List Dat) (A1 : Option Addr) (n1 c1 : Nat) (left : Int) (w : World) (h0 : 0 ≤ left) (h1 : left ≤ 1099511627776) (hf0 : f0.size ≤ 9223372036854775807) (hl1 : Lies w (.l L1) [.slice A1 n1 c1]) (ht1 : ∀ x ∈ L1, Has tyInstr x) (hm1 : n1 ≤ 9223372036854775807) : Calls Tryz.prog 107 #[.agg #[.string f0, .slice A1 n1 c1], .int .i64 left] w (GivesInt (leftD (Dat.r [.s f0, .l L1]) left) w) := by
  have B0 : Below w.heap.size w (w.alloc (.cells #[.string f0, .slice A1 n1 c1] 122)) := by go_grown
  have HB0 := Lib.hid B0
  go_enter Tryz.func107, Tryz.ntmps107
  by_cases g0 : left - f0.size < 0
  · go_wp2_with fail
    go_ret
    exact GivesInt.ret (leftD_no (by simp only [Dat.bulk, bulkAll]; omega)) (by go_grown)
  · skip
    go_wp2_with fail
    refine (szInstrS L1 A1 n1 c1 (left - f0.size) _ (by omega) (by omega) (hl1.below B0) ht1 hm1).mono ?_
    rintro e w1 ⟨rfl, hb⟩
    have HB2 := Lib.hid (HB0.out.trans (hb.mono (by simp)))
    clear hb
    by_cases g1 : left - f0.size - (Dat.l L1).bulk < 0
    · rw [show leftD (Dat.l L1) (left - f0.size) = -1 from if_pos g1]
      have hneg : left - (Dat.r [.s f0, .l L1]).bulk < 0 := by simp only [Dat.bulk, bulkAll] at g1 ⊢; omega
      clear hl1 ht1
      go_wp2_with fail
      go_ret
      exact GivesInt.ret (leftD_no hneg) HB2.out
    · rw [show leftD (Dat.l L1) (left - f0.size) = left - f0.size - (Dat.l L1).bulk from if_neg g1]
      have hpos : left - (Dat.r [.s f0, .l L1]).bulk = left - f0.size - (Dat.l L1).bulk := by simp only [Dat.bulk, bulkAll]; omega
      have hp0 : 0 ≤ left - f0.size - (Dat.l L1).bulk := by omega
      have HP := Lib.hid hpos
      clear hl1 ht1 hpos
      generalize left - f0.size - (Dat.l L1).bulk = rr at *
      go_wp2_with fail
      go_ret
      exact GivesInt.ret (by rw [leftD, if_neg (by rw [HP.out]; omega), HP.out]) HB2.out
set_option maxRecDepth 100000 in
set_option maxHeartbeats 2000000 in
theorem szMethodS (L : List Dat) (A : Option Addr) (n c : Nat) (left : Int) (w : World) (h0 : 0 ≤ left) (h1 : left ≤ 1099511627776) (h : Lies w (.l L) [.slice A n c]) (ht : ∀ x ∈ L, Has tyMethod x) (hn : n ≤ 9223372036854775807) : Calls Tryz.prog 86 #[.slice A n c, .int .i64 left] w (GivesInt (leftD (Dat.l L) left) w) := by
  have H := Lib.hid h
  have HT := Lib.hid ht
  have hc := h.count
  have HC := Lib.hid hc
  clear h ht hc
  by_cases g0 : left - n < 0
  · go_enter Tryz.func86, Tryz.ntmps86
    go_wp2
    go_ret
    exact GivesInt.ret (leftD_no (by have := HC.out; simp only [Dat.bulk]; omega)) (Below.refl _ _)
  · go_enter Tryz.func86, Tryz.ntmps86
    go_wp2
    go_loopw [1, 5] (fun lv iv wr => ∃ (i : Nat) (r : Int), i ≤ n ∧ iv = .int .i64 i ∧ lv = .int .i64 r ∧ r = left - n - bulkAll (L.take i) ∧ 0 ≤ r ∧ r ≤ left ∧ Below w.heap.size w wr) (fun _ iv _ => n - (intOf iv).toNat)
    case atStart => exact ⟨0, left - n, Nat.zero_le _, rfl, rfl, by simp [bulkAll], by omega, by omega, Below.refl _ _⟩
    case round =>
      obtain ⟨i, r, hin, rfl, rfl, hr, hr0, hr1, hb⟩ := hrel
      have HR := Lib.hid hr
      clear hr
      by_cases hlt : i < n
      · obtain ⟨b, off, d, xs, rfl, hbw, hzi, hlie, hlen, hcell⟩ := (H.out.below hb).elem (fun x hx => (HT.out x hx).width) hlt
        obtain ⟨f0, L1, A1, n1, c1, rfl, rfl, hf0, hl1, ht1, hm1⟩ := invMethod (HT.out d (List.mem_of_getElem? hzi)) hlie
        have r0 : wr.cell? ⟨b, off + i * 2, none⟩ = some (.string f0) := hcell 0 _ rfl
        have r1 : wr.cell? ⟨b, off + i * 2 + 1, none⟩ = some (.slice A1 n1 c1) := hcell 1 _ rfl
        have HZ := Lib.hid (bulk_next hzi)
        have HM := Lib.hid (bulk_take_le L (i + 1))
        have HBR := Lib.hid hb
        clear hzi hb hcell hlie
        go_wp2_with fail
        refine (szMethod f0 L1 A1 n1 c1 r _ hr0 (by omega) hf0 hl1 ht1 hm1).mono ?_
        rintro e w2 ⟨rfl, hb2⟩
        have HB2 := Lib.hid (HBR.out.trans (hb2.mono HBR.out.size))
        clear hb2 hl1 ht1
        by_cases g1 : r - (Dat.r [.s f0, .l L1]).bulk < 0
        · rw [show leftD (Dat.r [.s f0, .l L1]) r = -1 from if_pos g1]
          have hneg : left - (Dat.l L).bulk < 0 := by have h1 := HZ.out; have h2 := HM.out; have h3 := HC.out; have h4 := HR.out; rw [Dat.bulk]; omega
          go_wp2_with fail
          go_ret
          exact GivesInt.ret (leftD_no hneg) HB2.out
        · rw [show leftD (Dat.r [.s f0, .l L1]) r = r - (Dat.r [.s f0, .l L1]).bulk from if_neg g1]
          have HE : Hid (r - (Dat.r [.s f0, .l L1]).bulk = left - n - bulkAll (L.take (i + 1))) := Lib.hid (by have h1 := HZ.out; have h4 := HR.out; omega)
          have hp0 : 0 ≤ r - (Dat.r [.s f0, .l L1]).bulk := by omega
          have hp1 : r - (Dat.r [.s f0, .l L1]).bulk ≤ left := by omega
          generalize r - (Dat.r [.s f0, .l L1]).bulk = rr at *
          go_wp2_with fail
          go_roundw
          case rel => exact ⟨i + 1, rr, by omega, by go_num, rfl, HE.out, hp0, hp1, HB2.out⟩
          case measure => simp [intOf]; omega
      · obtain rfl : i = n := by omega
        have HBR := Lib.hid hb
        clear hb
        have hE : r = leftD (Dat.l L) left := by
          have h4 := HR.out
          have h3 := HC.out
          rw [List.take_of_length_le (by omega)] at h4
          rw [leftD, if_neg (by rw [Dat.bulk]; omega), Dat.bulk]
          omega
        have HE := Lib.hid hE
        clear hE
        go_wp2_with fail
        go_ret
        exact GivesInt.ret HE.out HBR.out
set_option maxHeartbeats 2000000 in
theorem szScript (f0 : ByteArray) (L1 : List Dat) (A1 : Option Addr) (n1 c1 : Nat) (left : Int) (w : World) (h0 : 0 ≤ left) (h1 : left ≤ 1099511627776) (hf0 : f0.size ≤ 9223372036854775807) (hl1 : Lies w (.l L1) [.slice A1 n1 c1]) (ht1 : ∀ x ∈ L1, Has tyMethod x) (hm1 : n1 ≤ 9223372036854775807) : Calls Tryz.prog 49 #[.agg #[.string f0, .slice A1 n1 c1], .int .i64 left] w (GivesInt (leftD (Dat.r [.s f0, .l L1]) left) w) := by
  have B0 : Below w.heap.size w (w.alloc (.cells #[.string f0, .slice A1 n1 c1] 75)) := by go_grown
  have HB0 := Lib.hid B0
  go_enter Tryz.func49, Tryz.ntmps49
  by_cases g0 : left - f0.size < 0
  · go_wp2_with fail
    go_ret
    exact GivesInt.ret (leftD_no (by simp only [Dat.bulk, bulkAll]; omega)) (by go_grown)
  · skip
    go_wp2_with fail
    refine (szMethodS L1 A1 n1 c1 (left - f0.size) _ (by omega) (by omega) (hl1.below B0) ht1 hm1).mono ?_
    rintro e w1 ⟨rfl, hb⟩
    have HB2 := Lib.hid (HB0.out.trans (hb.mono (by simp)))
    clear hb
    by_cases g1 : left - f0.size - (Dat.l L1).bulk < 0
    · rw [show leftD (Dat.l L1) (left - f0.size) = -1 from if_pos g1]
      have hneg : left - (Dat.r [.s f0, .l L1]).bulk < 0 := by simp only [Dat.bulk, bulkAll] at g1 ⊢; omega
      clear hl1 ht1
      go_wp2_with fail
      go_ret
      exact GivesInt.ret (leftD_no hneg) HB2.out
    · rw [show leftD (Dat.l L1) (left - f0.size) = left - f0.size - (Dat.l L1).bulk from if_neg g1]
      have hpos : left - (Dat.r [.s f0, .l L1]).bulk = left - f0.size - (Dat.l L1).bulk := by simp only [Dat.bulk, bulkAll]; omega
      have hp0 : 0 ≤ left - f0.size - (Dat.l L1).bulk := by omega
      have HP := Lib.hid hpos
      clear hl1 ht1 hpos
      generalize left - f0.size - (Dat.l L1).bulk = rr at *
      go_wp2_with fail
      go_ret
      exact GivesInt.ret (by rw [leftD, if_neg (by rw [HP.out]; omega), HP.out]) HB2.out
set_option maxRecDepth 100000 in
set_option maxHeartbeats 2000000 in
theorem szScriptS (L : List Dat) (A : Option Addr) (n c : Nat) (left : Int) (w : World) (h0 : 0 ≤ left) (h1 : left ≤ 1099511627776) (h : Lies w (.l L) [.slice A n c]) (ht : ∀ x ∈ L, Has tyScript x) (hn : n ≤ 9223372036854775807) : Calls Tryz.prog 20 #[.slice A n c, .int .i64 left] w (GivesInt (leftD (Dat.l L) left) w) := by
  have H := Lib.hid h
  have HT := Lib.hid ht
  have hc := h.count
  have HC := Lib.hid hc
  clear h ht hc
  by_cases g0 : left - n < 0
  · go_enter Tryz.func20, Tryz.ntmps20
    go_wp2
    go_ret
    exact GivesInt.ret (leftD_no (by have := HC.out; simp only [Dat.bulk]; omega)) (Below.refl _ _)
  · go_enter Tryz.func20, Tryz.ntmps20
    go_wp2
    go_loopw [1, 5] (fun lv iv wr => ∃ (i : Nat) (r : Int), i ≤ n ∧ iv = .int .i64 i ∧ lv = .int .i64 r ∧ r = left - n - bulkAll (L.take i) ∧ 0 ≤ r ∧ r ≤ left ∧ Below w.heap.size w wr) (fun _ iv _ => n - (intOf iv).toNat)
    case atStart => exact ⟨0, left - n, Nat.zero_le _, rfl, rfl, by simp [bulkAll], by omega, by omega, Below.refl _ _⟩
    case round =>
      obtain ⟨i, r, hin, rfl, rfl, hr, hr0, hr1, hb⟩ := hrel
      have HR := Lib.hid hr
      clear hr
      by_cases hlt : i < n
      · obtain ⟨b, off, d, xs, rfl, hbw, hzi, hlie, hlen, hcell⟩ := (H.out.below hb).elem (fun x hx => (HT.out x hx).width) hlt
        obtain ⟨f0, L1, A1, n1, c1, rfl, rfl, hf0, hl1, ht1, hm1⟩ := invScript (HT.out d (List.mem_of_getElem? hzi)) hlie
        have r0 : wr.cell? ⟨b, off + i * 2, none⟩ = some (.string f0) := hcell 0 _ rfl
        have r1 : wr.cell? ⟨b, off + i * 2 + 1, none⟩ = some (.slice A1 n1 c1) := hcell 1 _ rfl
        have HZ := Lib.hid (bulk_next hzi)
        have HM := Lib.hid (bulk_take_le L (i + 1))
        have HBR := Lib.hid hb
        clear hzi hb hcell hlie
        go_wp2_with fail
        refine (szScript f0 L1 A1 n1 c1 r _ hr0 (by omega) hf0 hl1 ht1 hm1).mono ?_
        rintro e w2 ⟨rfl, hb2⟩
        have HB2 := Lib.hid (HBR.out.trans (hb2.mono HBR.out.size))
        clear hb2 hl1 ht1
        by_cases g1 : r - (Dat.r [.s f0, .l L1]).bulk < 0
        · rw [show leftD (Dat.r [.s f0, .l L1]) r = -1 from if_pos g1]
          have hneg : left - (Dat.l L).bulk < 0 := by have h1 := HZ.out; have h2 := HM.out; have h3 := HC.out; have h4 := HR.out; rw [Dat.bulk]; omega
          go_wp2_with fail
          go_ret
          exact GivesInt.ret (leftD_no hneg) HB2.out
        · rw [show leftD (Dat.r [.s f0, .l L1]) r = r - (Dat.r [.s f0, .l L1]).bulk from if_neg g1]
          have HE : Hid (r - (Dat.r [.s f0, .l L1]).bulk = left - n - bulkAll (L.take (i + 1))) := Lib.hid (by have h1 := HZ.out; have h4 := HR.out; omega)
          have hp0 : 0 ≤ r - (Dat.r [.s f0, .l L1]).bulk := by omega
          have hp1 : r - (Dat.r [.s f0, .l L1]).bulk ≤ left := by omega
          generalize r - (Dat.r [.s f0, .l L1]).bulk = rr at *
          go_wp2_with fail
          go_roundw
          case rel => exact ⟨i + 1, rr, by omega, by go_num, rfl, HE.out, hp0, hp1, HB2.out⟩
          case measure => simp [intOf]; omega
      · obtain rfl : i = n := by omega
        have HBR := Lib.hid hb
        clear hb
        have hE : r = leftD (Dat.l L) left := by
          have h4 := HR.out
          have h3 := HC.out
          rw [List.take_of_length_le (by omega)] at h4
          rw [leftD, if_neg (by rw [Dat.bulk]; omega), Dat.bulk]
          omega
        have HE := Lib.hid hE
        clear hE
        go_wp2_with fail
        go_ret
        exact GivesInt.ret HE.out HBR.out
end Go.Proofs.YtgibhbplgiejpaaGreat
namespace Go.Proofs.YtgibhbplgiejpaaGreat
open Go.RowKit
/-- What stood at the beginning stands, so do these boxes, and these cells read as these data. -/
def St (W : World) (l : List (Nat × List Value)) (m : List (Dat × List Value)) (w : World) : Prop := Held W l w ∧ ∀ p ∈ m, Lies w p.1 p.2
section
variable {W w w' : World} {l : List (Nat × List Value)} {m : List (Dat × List Value)}
theorem St.start (W : World) : St W [] [] W := ⟨Held.start W, fun p h => by cases h⟩
theorem St.below (h : St W l m w) (hb : Below w.heap.size w w') : St W l m w' := ⟨h.1.below hb, fun p hp => (h.2 p hp).below hb⟩
theorem St.alloc (h : St W l m w) (o : Obj) : St W l m (w.alloc o) := h.below ((Below.refl _ _).alloc (Nat.le_refl _) o)
theorem St.drew (h : St W l m w) : St W l m w.drew := h.below (Below.refl _ _).drew
theorem St.push (h : St W l m w) (cs : Array Value) (T : TypeId) : St W ((w.heap.size, cs.toList) :: l) m (w.alloc (.cells cs T)) := ⟨h.1.push cs T, (h.alloc _).2⟩
theorem St.lie (h : St W l m w) {d : Dat} {cs : List Value} (hl : Lies w d cs) : St W l ((d, cs) :: m) w := by
  refine ⟨h.1, fun p hp => ?_⟩
  rcases List.mem_cons.1 hp with rfl | hp
  · exact hl
  · exact h.2 p hp
theorem St.lies (h : St W l m w) {d : Dat} {cs : List Value} (hm : (d, cs) ∈ m) : Lies w d cs := h.2 _ hm
theorem St.two (h : St W l m w) {g : Nat} {x y : Value} (hm : (g, [x, y]) ∈ l) : w.cell? ⟨g, 0, none⟩ = some x ∧ w.cell? ⟨g, 1, none⟩ = some y := ⟨h.1.at_ hm (i := 0) rfl, h.1.at_ hm (i := 1) rfl⟩
theorem St.low (h : St W l m w) : Below W.heap.size W w := h.1.1
theorem St.less {l' : List (Nat × List Value)} {m' : List (Dat × List Value)} (h : St W l m w) (hl : ∀ p ∈ l', p ∈ l) (hm : ∀ p ∈ m', p ∈ m) : St W l' m' w := ⟨h.1.less hl, fun p hp => h.2 p (hm p hp)⟩
end
theorem leftD_cases (d : Dat) (left : Int) : leftD d left = -1 ∨ ∃ r : Int, leftD d left = r ∧ 0 ≤ r ∧ r ≤ left ∧ (d.bulk : Int) ≤ left := by
  unfold leftD
  by_cases h0 : left - d.bulk < 0
  · exact Or.inl (if_pos h0)
  · exact Or.inr ⟨left - d.bulk, if_neg h0, by omega, by omega, by omega⟩
end Go.Proofs.YtgibhbplgiejpaaGreat
