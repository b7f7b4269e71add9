/- Types of chapters 5 and 6, and the laws' copies of their data. -/
import Derived.Test.YtaepconmjmcbdaaDatMake
import Derived.Test.YtaepconmjmcbdaaDatOpen
import Derived.LoopTactic
import Derived.Lib.Hide
import Derived.Deep.QuietTactic
import Derived.BigQuiet
import Derived.Deep.RegionWith
import Derived.Handy
namespace Go.Proofs.Ytaepconmjmcbdaa
open Go.RowKit
set_option linter.unusedVariables false
set_option linter.unusedSimpArgs false
def tyInstr : Ty := .rcd [.int, .int, .int, .int, .int, .str]
theorem tiedInstr : tiedB Try.prog tyInstr 116 = true := by kernel_rfl
theorem widthInstr : tyInstr.width = 6 := rfl
theorem invInstr {w : World} {d : Dat} {xs : List Value} (hT : Has tyInstr d) (h : Lies w d xs) : ∃ (f0 : Int) (f1 : Int) (f2 : Int) (f3 : Int) (f4 : Int) (f5 : ByteArray), d = .r [.i f0, .i f1, .i f2, .i f3, .i f4, .s f5] ∧ xs = [.int .i64 f0, .int .i64 f1, .int .i64 f2, .int .i64 f3, .int .i64 f4, .string f5] ∧ f5.size ≤ 9223372036854775807 := by
  simp only [tyInstr, Has, HasAll] at hT
  obtain ⟨ds, rfl, d0, r0, rfl, ⟨f0, rfl, -, -⟩, d1, r1, rfl, ⟨f1, rfl, -, -⟩, d2, r2, rfl, ⟨f2, rfl, -, -⟩, d3, r3, rfl, ⟨f3, rfl, -, -⟩, d4, r4, rfl, ⟨f4, rfl, -, -⟩, d5, r5, rfl, ⟨f5, rfl, hf5⟩, rfl⟩ := hT
  simp only [Lies, LiesAll] at h
  obtain ⟨e0, q0, rfl, rfl, e1, q1, rfl, rfl, e2, q2, rfl, rfl, e3, q3, rfl, rfl, e4, q4, rfl, rfl, e5, q5, rfl, rfl, rfl⟩ := h
  exact ⟨f0, f1, f2, f3, f4, f5, rfl, rfl, hf5⟩
def GivesInstr (f0 : Int) (f1 : Int) (f2 : Int) (f3 : Int) (f4 : Int) (f5 : ByteArray) (w : World) (e : Ending) (w' : World) : Prop := e = .returned (.agg #[.int .i64 f0, .int .i64 f1, .int .i64 f2, .int .i64 f3, .int .i64 f4, .string f5]) ∧ Below w.heap.size w w'
set_option maxHeartbeats 2000000 in
theorem toInstr (f0 : Int) (f1 : Int) (f2 : Int) (f3 : Int) (f4 : Int) (f5 : ByteArray) (w : World) : Calls Try.prog 89 #[.agg #[.int .i64 f0, .int .i64 f1, .int .i64 f2, .int .i64 f3, .int .i64 f4, .string f5]] w (GivesInstr f0 f1 f2 f3 f4 f5 w) := by
  go_enter Try.func89, Try.ntmps89
  go_wp2
  refine bodyPost_ret (v := .agg #[.int .i64 f0, .int .i64 f1, .int .i64 f2, .int .i64 f3, .int .i64 f4, .string f5]) (by simp [results, Try.results89, go_sem]) rfl ?_
  exact ⟨rfl, by go_grown⟩
theorem ownInstr {w : World} {Iv : Nat → Prop} {f0 : Int} {f1 : Int} {f2 : Int} {f3 : Int} {f4 : Int} {f5 : ByteArray} : Owns w (.r [.i f0, .i f1, .i f2, .i f3, .i f4, .s f5]) [.int .i64 f0, .int .i64 f1, .int .i64 f2, .int .i64 f3, .int .i64 f4, .string f5] Iv := by
  exact ⟨[.int .i64 f0], _, (fun _ => False), (fun _ => False), rfl, (fun b hb => hb.elim), (fun b hb => hb.elim), (fun b hb hb' => hb.elim), rfl, ⟨[.int .i64 f1], _, (fun _ => False), (fun _ => False), rfl, (fun b hb => hb.elim), (fun b hb => hb.elim), (fun b hb hb' => hb.elim), rfl, ⟨[.int .i64 f2], _, (fun _ => False), (fun _ => False), rfl, (fun b hb => hb.elim), (fun b hb => hb.elim), (fun b hb hb' => hb.elim), rfl, ⟨[.int .i64 f3], _, (fun _ => False), (fun _ => False), rfl, (fun b hb => hb.elim), (fun b hb => hb.elim), (fun b hb hb' => hb.elim), rfl, ⟨[.int .i64 f4], _, (fun _ => False), (fun _ => False), rfl, (fun b hb => hb.elim), (fun b hb => hb.elim), (fun b hb hb' => hb.elim), rfl, ⟨[.string f5], _, (fun _ => False), (fun _ => False), rfl, (fun b hb => hb.elim), (fun b hb => hb.elim), (fun b hb hb' => hb.elim), rfl, rfl⟩⟩⟩⟩⟩⟩
theorem zeroInstr (w : World) : Owns w (.r [.i 0, .i 0, .i 0, .i 0, .i 0, .s ⟨#[]⟩]) (#[.int .i64 0, .int .i64 0, .int .i64 0, .int .i64 0, .int .i64 0, .string ⟨#[]⟩] : Array Value).toList (fun _ => False) := by
  exact ⟨[.int .i64 0], _, (fun _ => False), (fun _ => False), rfl, (fun b hb => hb), (fun b hb => hb), (fun b hb _ => hb), rfl, ⟨[.int .i64 0], _, (fun _ => False), (fun _ => False), rfl, (fun b hb => hb), (fun b hb => hb), (fun b hb _ => hb), rfl, ⟨[.int .i64 0], _, (fun _ => False), (fun _ => False), rfl, (fun b hb => hb), (fun b hb => hb), (fun b hb _ => hb), rfl, ⟨[.int .i64 0], _, (fun _ => False), (fun _ => False), rfl, (fun b hb => hb), (fun b hb => hb), (fun b hb _ => hb), rfl, ⟨[.int .i64 0], _, (fun _ => False), (fun _ => False), rfl, (fun b hb => hb), (fun b hb => hb), (fun b hb _ => hb), rfl, ⟨[.string ⟨#[]⟩], _, (fun _ => False), (fun _ => False), rfl, (fun b hb => hb), (fun b hb => hb), (fun b hb _ => hb), rfl, rfl⟩⟩⟩⟩⟩⟩
theorem infoInstr : (Try.prog.info? 81).map (fun i => (i.zero, i.size, i.bytes)) = some (some (.agg #[.int .i64 0, .int .i64 0, .int .i64 0, .int .i64 0, .int .i64 0, .string ⟨#[]⟩]), 6, 56) := by kernel_rfl
set_option maxRecDepth 100000 in
set_option maxHeartbeats 2000000 in
theorem toInstrS (L : List Dat) (A : Option Addr) (n c : Nat) (w : World) (h : Lies w (.l L) [.slice A n c]) (ht : ∀ x ∈ L, Has tyInstr x) (hq : (Dat.l L).bulk ≤ 1099511627776) : Calls Try.prog 64 #[.slice A n c] w (FreshD L w) := by
  obtain ⟨i0, hi, hz0, hz1, hz2⟩ := info_parts infoInstr
  have H := Lib.hid h
  have HT := Lib.hid ht
  have hn : n ≤ 1099511627776 := by have := h.count; simp only [Dat.bulk] at hq; omega
  clear h ht
  go_enter Try.func64, Try.ntmps64
  go_wp2_with (refine wpList_make_full _ rfl _ _ 27 rfl w.heap.size 81 i0 (.agg #[.int .i64 0, .int .i64 0, .int .i64 0, .int .i64 0, .int .i64 0, .string ⟨#[]⟩]) 6 Try.underlying27 hi hz0 hz1 _ _ (n : Int) (n : Int) n rfl rfl rfl rfl (by rw [hz2]; omega) (by unfold maxLen; omega) (Nat.le_refl _) ?_)
  intro w1 hown hgrow
  have hU : UptoD w 6 L w.heap.size n 0 w1 := UptoD.start (zc := #[.int .i64 0, .int .i64 0, .int .i64 0, .int .i64 0, .int .i64 0, .string ⟨#[]⟩]) (zeroInstr) rfl hown (Nat.le_refl _) ((Below.refl w.heap.size w).grown hgrow (Nat.le_refl _) (fun k h => by cases h))
  clear hown hgrow
  go_wp2
  go_loopw [4] (fun iv wr => ∃ i : Nat, i ≤ n ∧ iv = .int .i64 i ∧ UptoD w 6 L w.heap.size n i wr) (fun iv _ => n - (intOf iv).toNat)
  case atStart => exact ⟨0, Nat.zero_le _, rfl, hU⟩
  case round =>
    obtain ⟨i, hin, rfl, hUr⟩ := hrel
    clear hU
    by_cases hlt : i < n
    · have hUr' := Lib.hid hUr
      obtain ⟨ds, B, -, -, -, -, -, hb⟩ := hUr
      obtain ⟨b, off, d, xs, rfl, hbw, hzi, hlie, hlen, hcell⟩ := (H.out.below hb).elem (fun x hx => (HT.out x hx).width) hlt
      obtain ⟨f0, f1, f2, f3, f4, f5, rfl, rfl, hf5⟩ := invInstr (HT.out d (List.mem_of_getElem? hzi)) hlie
      have r0 : wr.cell? ⟨b, off + i * 6, none⟩ = some (.int .i64 f0) := hcell 0 _ rfl
      have r1 : wr.cell? ⟨b, off + i * 6 + 1, none⟩ = some (.int .i64 f1) := hcell 1 _ rfl
      have r2 : wr.cell? ⟨b, off + i * 6 + 2, none⟩ = some (.int .i64 f2) := hcell 2 _ rfl
      have r3 : wr.cell? ⟨b, off + i * 6 + 3, none⟩ = some (.int .i64 f3) := hcell 3 _ rfl
      have r4 : wr.cell? ⟨b, off + i * 6 + 4, none⟩ = some (.int .i64 f4) := hcell 4 _ rfl
      have r5 : wr.cell? ⟨b, off + i * 6 + 5, none⟩ = some (.string f5) := hcell 5 _ rfl
      have HZ := Lib.hid hzi
      have HW := Lib.hid ((HT.out _ (List.mem_of_getElem? hzi)).width)
      have HBR := Lib.hid hb
      clear hzi hb hcell hlie
      go_wp2_with (
        with_reducible refine (toInstr f0 f1 f2 f3 f4 f5 _).mono ?_
        rintro e w2 ⟨rfl, hb2⟩
        have hsl := hUr'.out.slot hlt hb2
        obtain ⟨u0, s0⟩ : ∃ u, w2.cell? ⟨w.heap.size, i * 6, none⟩ = some u := hsl.1 0 (by omega)
        have t0 := hsl.2 (i * 6)
        obtain ⟨u1, s1⟩ : ∃ u, w2.cell? ⟨w.heap.size, i * 6 + 1, none⟩ = some u := hsl.1 1 (by omega)
        have t1 := hsl.2 (i * 6 + 1)
        obtain ⟨u2, s2⟩ : ∃ u, w2.cell? ⟨w.heap.size, i * 6 + 2, none⟩ = some u := hsl.1 2 (by omega)
        have t2 := hsl.2 (i * 6 + 2)
        obtain ⟨u3, s3⟩ : ∃ u, w2.cell? ⟨w.heap.size, i * 6 + 3, none⟩ = some u := hsl.1 3 (by omega)
        have t3 := hsl.2 (i * 6 + 3)
        obtain ⟨u4, s4⟩ : ∃ u, w2.cell? ⟨w.heap.size, i * 6 + 4, none⟩ = some u := hsl.1 4 (by omega)
        have t4 := hsl.2 (i * 6 + 4)
        obtain ⟨u5, s5⟩ : ∃ u, w2.cell? ⟨w.heap.size, i * 6 + 5, none⟩ = some u := hsl.1 5 (by omega)
        have t5 := hsl.2 (i * 6 + 5)
        have HN := Lib.hid (UptoD.next hUr'.out hlt HZ.out HW.out (ownInstr (Iv := fun _ => False)) (fun b hb => hb.elim) hb2)
        clear hsl hb2)
      go_roundw
      case rel => exact ⟨i + 1, by omega, by go_num, HN.out⟩
      case measure => simp [intOf]; omega
    · obtain rfl : i = n := by omega
      have hUr' := Lib.hid hUr
      clear hUr
      go_wp2_with fail
      go_ret
      exact hUr'.out.ret H.out.count
def tyMethod : Ty := .rcd [.str, .sl tyInstr]
theorem tiedMethod : tiedB Try.prog tyMethod 44 = true := by kernel_rfl
theorem widthMethod : tyMethod.width = 2 := rfl
theorem invMethod {w : World} {d : Dat} {xs : List Value} (hT : Has tyMethod d) (h : Lies w d xs) : ∃ (f0 : ByteArray) (L1 : List Dat) (A1 : Option Addr) (n1 c1 : Nat), d = .r [.s f0, .l L1] ∧ xs = [.string f0, .slice A1 n1 c1] ∧ f0.size ≤ 9223372036854775807 ∧ Lies w (.l L1) [.slice A1 n1 c1] ∧ (∀ x ∈ L1, Has tyInstr x) ∧ n1 ≤ 9223372036854775807 := by
  simp only [tyMethod, Has, HasAll] at hT
  obtain ⟨ds, rfl, d0, r0, rfl, ⟨f0, rfl, hf0⟩, d1, r1, rfl, ⟨L1, rfl, hm1, ht1⟩, rfl⟩ := hT
  simp only [Lies, LiesAll] at h
  obtain ⟨e0, q0, rfl, rfl, e1, q1, rfl, ⟨A1, n1, c1, rfl, hn1, hh1⟩, rfl⟩ := h
  exact ⟨f0, L1, A1, n1, c1, rfl, rfl, hf0, (by rw [Lies]; exact ⟨A1, n1, c1, rfl, hn1, hh1⟩), ht1, (hn1 ▸ hm1)⟩
def GivesMethod (f0 : ByteArray) (L1 : List Dat) (n1 : Nat) (w : World) (e : Ending) (w' : World) : Prop := ∃ (B1 : Option Addr) (k1 : Nat), e = .returned (.agg #[.string f0, .slice B1 n1 k1]) ∧ Owns w' (.l L1) [.slice B1 n1 k1] (fun b => w.heap.size ≤ b ∧ b < w'.heap.size) ∧ Below w.heap.size w w'
set_option maxHeartbeats 2000000 in
theorem toMethod (f0 : ByteArray) (L1 : List Dat) (A1 : Option Addr) (n1 c1 : Nat) (w : World) (hl1 : Lies w (.l L1) [.slice A1 n1 c1]) (ht1 : ∀ x ∈ L1, Has tyInstr x) (hq1 : (Dat.l L1).bulk ≤ 1099511627776) : Calls Try.prog 26 #[.agg #[.string f0, .slice A1 n1 c1]] w (GivesMethod f0 L1 n1 w) := by
  have hb0 : Below w.heap.size w (((w.alloc (.cells #[.string f0, .slice A1 n1 c1] 44)).alloc (.cells #[.string ⟨#[]⟩, .slice none 0 0] 29)).alloc (.cells #[.string f0, .slice none 0 0] 29)) := by go_grown
  have HL := Lib.hid (hl1.below hb0)
  have HT := Lib.hid ht1
  have HB0 := Lib.hid hb0
  clear hl1 ht1 hb0
  go_enter Try.func26, Try.ntmps26
  go_wp2_with fail
  refine (toInstrS L1 A1 n1 c1 _ HL.out HT.out hq1).mono ?_
  rintro e w1 ⟨B1, m1, k1, rfl, hO, hb⟩
  obtain rfl : n1 = m1 := by rw [← hO.lies.count, ← HL.out.count]
  have y0 : w1.cell? ⟨w.heap.size + 1 + 1, 0, none⟩ = some (.string f0) := (hb.cell (p := ⟨w.heap.size + 1 + 1, 0, none⟩) (by simp; try omega)).trans (by simp [go_sem])
  have y1 : w1.cell? ⟨w.heap.size + 1 + 1, 1, none⟩ = some (.slice none 0 0) := (hb.cell (p := ⟨w.heap.size + 1 + 1, 1, none⟩) (by simp; try omega)).trans (by simp [go_sem])
  have z0 : w1.cell? ⟨w.heap.size + 1, 0, none⟩ = some (.string ⟨#[]⟩) := (hb.cell (p := ⟨w.heap.size + 1, 0, none⟩) (by simp; try omega)).trans (by simp [go_sem])
  have z1 : w1.cell? ⟨w.heap.size + 1, 1, none⟩ = some (.slice none 0 0) := (hb.cell (p := ⟨w.heap.size + 1, 1, none⟩) (by simp; try omega)).trans (by simp [go_sem])
  have x0 : w1.cell? ⟨w.heap.size, 0, none⟩ = some (.string f0) := (hb.cell (p := ⟨w.heap.size, 0, none⟩) (by simp; try omega)).trans (by simp [go_sem])
  have x1 : w1.cell? ⟨w.heap.size, 1, none⟩ = some (.slice A1 n1 c1) := (hb.cell (p := ⟨w.heap.size, 1, none⟩) (by simp; try omega)).trans (by simp [go_sem])
  have fy0 : w1.frozen? ⟨w.heap.size + 1 + 1, 0, none⟩ = false := (hb.frozen (p := ⟨w.heap.size + 1 + 1, 0, none⟩) (by simp; try omega)).trans (by simp [go_sem])
  have fz0 : w1.frozen? ⟨w.heap.size + 1, 0, none⟩ = false := (hb.frozen (p := ⟨w.heap.size + 1, 0, none⟩) (by simp; try omega)).trans (by simp [go_sem])
  have fy1 : w1.frozen? ⟨w.heap.size + 1 + 1, 1, none⟩ = false := (hb.frozen (p := ⟨w.heap.size + 1 + 1, 1, none⟩) (by simp; try omega)).trans (by simp [go_sem])
  have fz1 : w1.frozen? ⟨w.heap.size + 1, 1, none⟩ = false := (hb.frozen (p := ⟨w.heap.size + 1, 1, none⟩) (by simp; try omega)).trans (by simp [go_sem])
  have HO := Lib.hid hO
  have HB := Lib.hid (HB0.out.trans (hb.mono (by simp; try omega)))
  have hs1 := hb.size
  clear hb hO
  go_wp2_with fail
  refine bodyPost_ret (v := .agg #[.string f0, .slice B1 n1 k1]) (by simp [results, Try.results26, go_sem, y0, y1, z0, z1]) rfl ?_
  have hbw := HB.out
  refine ⟨B1, k1, rfl, ((HO.out.same (fun b hb _ => ?_)).mono (fun b hb => ?_)), by go_grown⟩
  · simp at hb
    repeat (rw [Below.heap_setCell _ _ _ _ (by simp; omega)])
  · simp at hb hs1 ⊢
    omega
theorem ownMethod {w : World} {Iv : Nat → Prop} {f0 : ByteArray} {L1 : List Dat} {B1 : Option Addr} {n1 k1 : Nat} (hO1 : Owns w (.l L1) [.slice B1 n1 k1] Iv) : Owns w (.r [.s f0, .l L1]) [.string f0, .slice B1 n1 k1] Iv := by
  exact ⟨[.string f0], _, (fun _ => False), Iv, rfl, (fun b hb => hb.elim), (fun b hb => hb), (fun b hb hb' => hb.elim), rfl, ⟨[.slice B1 n1 k1], _, Iv, (fun _ => False), rfl, (fun b hb => hb), (fun b hb => hb.elim), (fun b hb hb' => hb'.elim), hO1, rfl⟩⟩
theorem zeroMethod (w : World) : Owns w (.r [.s ⟨#[]⟩, .l []]) (#[.string ⟨#[]⟩, .slice none 0 0] : Array Value).toList (fun _ => False) := by
  exact ⟨[.string ⟨#[]⟩], _, (fun _ => False), (fun _ => False), rfl, (fun b hb => hb), (fun b hb => hb), (fun b hb _ => hb), rfl, ⟨[.slice none 0 0], _, (fun _ => False), (fun _ => False), rfl, (fun b hb => hb), (fun b hb => hb), (fun b hb _ => hb), ⟨none, 0, 0, rfl, rfl, Or.inl rfl⟩, rfl⟩⟩
theorem infoMethod : (Try.prog.info? 29).map (fun i => (i.zero, i.size, i.bytes)) = some (some (.agg #[.string ⟨#[]⟩, .slice none 0 0]), 2, 40) := by kernel_rfl
set_option maxRecDepth 100000 in
set_option maxHeartbeats 2000000 in
theorem toMethodS (L : List Dat) (A : Option Addr) (n c : Nat) (w : World) (h : Lies w (.l L) [.slice A n c]) (ht : ∀ x ∈ L, Has tyMethod x) (hq : (Dat.l L).bulk ≤ 1099511627776) : Calls Try.prog 69 #[.slice A n c] w (FreshD L w) := by
  obtain ⟨i0, hi, hz0, hz1, hz2⟩ := info_parts infoMethod
  have H := Lib.hid h
  have HT := Lib.hid ht
  have hn : n ≤ 1099511627776 := by have := h.count; simp only [Dat.bulk] at hq; omega
  clear h ht
  go_enter Try.func69, Try.ntmps69
  go_wp2_with (refine wpList_make_full _ rfl _ _ 32 rfl w.heap.size 29 i0 (.agg #[.string ⟨#[]⟩, .slice none 0 0]) 2 Try.underlying32 hi hz0 hz1 _ _ (n : Int) (n : Int) n rfl rfl rfl rfl (by rw [hz2]; omega) (by unfold maxLen; omega) (Nat.le_refl _) ?_)
  intro w1 hown hgrow
  have hU : UptoD w 2 L w.heap.size n 0 w1 := UptoD.start (zc := #[.string ⟨#[]⟩, .slice none 0 0]) (zeroMethod) rfl hown (Nat.le_refl _) ((Below.refl w.heap.size w).grown hgrow (Nat.le_refl _) (fun k h => by cases h))
  clear hown hgrow
  go_wp2
  go_loopw [4] (fun iv wr => ∃ i : Nat, i ≤ n ∧ iv = .int .i64 i ∧ UptoD w 2 L w.heap.size n i wr) (fun iv _ => n - (intOf iv).toNat)
  case atStart => exact ⟨0, Nat.zero_le _, rfl, hU⟩
  case round =>
    obtain ⟨i, hin, rfl, hUr⟩ := hrel
    clear hU
    by_cases hlt : i < n
    · have hUr' := Lib.hid hUr
      obtain ⟨ds, B, -, -, -, -, -, hb⟩ := hUr
      obtain ⟨b, off, d, xs, rfl, hbw, hzi, hlie, hlen, hcell⟩ := (H.out.below hb).elem (fun x hx => (HT.out x hx).width) hlt
      obtain ⟨f0, L1, A1, n1, c1, rfl, rfl, hf0, hl1, ht1, hm1⟩ := invMethod (HT.out d (List.mem_of_getElem? hzi)) hlie
      have r0 : wr.cell? ⟨b, off + i * 2, none⟩ = some (.string f0) := hcell 0 _ rfl
      have r1 : wr.cell? ⟨b, off + i * 2 + 1, none⟩ = some (.slice A1 n1 c1) := hcell 1 _ rfl
      have hq1 : (Dat.l L1).bulk ≤ 1099511627776 := by have h1 := bulk_mem (List.mem_of_getElem? hzi); simp only [Dat.bulk, bulkAll] at h1 hq ⊢; omega
      have HZ := Lib.hid hzi
      have HW := Lib.hid ((HT.out _ (List.mem_of_getElem? hzi)).width)
      have HBR := Lib.hid hb
      have HL1 := Lib.hid hl1
      have HX1 := Lib.hid ht1
      clear hzi hb hcell hlie hl1 ht1
      go_wp2_with (
        with_reducible refine (toMethod f0 L1 A1 n1 c1 _ HL1.out HX1.out hq1).mono ?_
        rintro e w2 ⟨B1, k1, rfl, hO1, hb2⟩
        have hsl := hUr'.out.slot hlt hb2
        obtain ⟨u0, s0⟩ : ∃ u, w2.cell? ⟨w.heap.size, i * 2, none⟩ = some u := hsl.1 0 (by omega)
        have t0 := hsl.2 (i * 2)
        obtain ⟨u1, s1⟩ : ∃ u, w2.cell? ⟨w.heap.size, i * 2 + 1, none⟩ = some u := hsl.1 1 (by omega)
        have t1 := hsl.2 (i * 2 + 1)
        have HN := Lib.hid (UptoD.next hUr'.out hlt HZ.out HW.out (ownMethod hO1) (fun b hb => hb) hb2)
        clear hsl hb2 hO1)
      go_roundw
      case rel => exact ⟨i + 1, by omega, by go_num, HN.out⟩
      case measure => simp [intOf]; omega
    · obtain rfl : i = n := by omega
      have hUr' := Lib.hid hUr
      clear hUr
      go_wp2_with fail
      go_ret
      exact hUr'.out.ret H.out.count
def tyScript : Ty := .rcd [.str, .sl tyMethod]
theorem tiedScript : tiedB Try.prog tyScript 51 = true := by kernel_rfl
theorem widthScript : tyScript.width = 2 := rfl
theorem invScript {w : World} {d : Dat} {xs : List Value} (hT : Has tyScript d) (h : Lies w d xs) : ∃ (f0 : ByteArray) (L1 : List Dat) (A1 : Option Addr) (n1 c1 : Nat), d = .r [.s f0, .l L1] ∧ xs = [.string f0, .slice A1 n1 c1] ∧ f0.size ≤ 9223372036854775807 ∧ Lies w (.l L1) [.slice A1 n1 c1] ∧ (∀ x ∈ L1, Has tyMethod x) ∧ n1 ≤ 9223372036854775807 := by
  simp only [tyScript, Has, HasAll] at hT
  obtain ⟨ds, rfl, d0, r0, rfl, ⟨f0, rfl, hf0⟩, d1, r1, rfl, ⟨L1, rfl, hm1, ht1⟩, rfl⟩ := hT
  simp only [Lies, LiesAll] at h
  obtain ⟨e0, q0, rfl, rfl, e1, q1, rfl, ⟨A1, n1, c1, rfl, hn1, hh1⟩, rfl⟩ := h
  exact ⟨f0, L1, A1, n1, c1, rfl, rfl, hf0, (by rw [Lies]; exact ⟨A1, n1, c1, rfl, hn1, hh1⟩), ht1, (hn1 ▸ hm1)⟩
def GivesScript (f0 : ByteArray) (L1 : List Dat) (n1 : Nat) (w : World) (e : Ending) (w' : World) : Prop := ∃ (B1 : Option Addr) (k1 : Nat), e = .returned (.agg #[.string f0, .slice B1 n1 k1]) ∧ Owns w' (.l L1) [.slice B1 n1 k1] (fun b => w.heap.size ≤ b ∧ b < w'.heap.size) ∧ Below w.heap.size w w'
set_option maxHeartbeats 2000000 in
theorem toScript (f0 : ByteArray) (L1 : List Dat) (A1 : Option Addr) (n1 c1 : Nat) (w : World) (hl1 : Lies w (.l L1) [.slice A1 n1 c1]) (ht1 : ∀ x ∈ L1, Has tyMethod x) (hq1 : (Dat.l L1).bulk ≤ 1099511627776) : Calls Try.prog 30 #[.agg #[.string f0, .slice A1 n1 c1]] w (GivesScript f0 L1 n1 w) := by
  have hb0 : Below w.heap.size w (((w.alloc (.cells #[.string f0, .slice A1 n1 c1] 51)).alloc (.cells #[.string ⟨#[]⟩, .slice none 0 0] 34)).alloc (.cells #[.string f0, .slice none 0 0] 34)) := by go_grown
  have HL := Lib.hid (hl1.below hb0)
  have HT := Lib.hid ht1
  have HB0 := Lib.hid hb0
  clear hl1 ht1 hb0
  go_enter Try.func30, Try.ntmps30
  go_wp2_with fail
  refine (toMethodS L1 A1 n1 c1 _ HL.out HT.out hq1).mono ?_
  rintro e w1 ⟨B1, m1, k1, rfl, hO, hb⟩
  obtain rfl : n1 = m1 := by rw [← hO.lies.count, ← HL.out.count]
  have y0 : w1.cell? ⟨w.heap.size + 1 + 1, 0, none⟩ = some (.string f0) := (hb.cell (p := ⟨w.heap.size + 1 + 1, 0, none⟩) (by simp; try omega)).trans (by simp [go_sem])
  have y1 : w1.cell? ⟨w.heap.size + 1 + 1, 1, none⟩ = some (.slice none 0 0) := (hb.cell (p := ⟨w.heap.size + 1 + 1, 1, none⟩) (by simp; try omega)).trans (by simp [go_sem])
  have z0 : w1.cell? ⟨w.heap.size + 1, 0, none⟩ = some (.string ⟨#[]⟩) := (hb.cell (p := ⟨w.heap.size + 1, 0, none⟩) (by simp; try omega)).trans (by simp [go_sem])
  have z1 : w1.cell? ⟨w.heap.size + 1, 1, none⟩ = some (.slice none 0 0) := (hb.cell (p := ⟨w.heap.size + 1, 1, none⟩) (by simp; try omega)).trans (by simp [go_sem])
  have x0 : w1.cell? ⟨w.heap.size, 0, none⟩ = some (.string f0) := (hb.cell (p := ⟨w.heap.size, 0, none⟩) (by simp; try omega)).trans (by simp [go_sem])
  have x1 : w1.cell? ⟨w.heap.size, 1, none⟩ = some (.slice A1 n1 c1) := (hb.cell (p := ⟨w.heap.size, 1, none⟩) (by simp; try omega)).trans (by simp [go_sem])
  have fy0 : w1.frozen? ⟨w.heap.size + 1 + 1, 0, none⟩ = false := (hb.frozen (p := ⟨w.heap.size + 1 + 1, 0, none⟩) (by simp; try omega)).trans (by simp [go_sem])
  have fz0 : w1.frozen? ⟨w.heap.size + 1, 0, none⟩ = false := (hb.frozen (p := ⟨w.heap.size + 1, 0, none⟩) (by simp; try omega)).trans (by simp [go_sem])
  have fy1 : w1.frozen? ⟨w.heap.size + 1 + 1, 1, none⟩ = false := (hb.frozen (p := ⟨w.heap.size + 1 + 1, 1, none⟩) (by simp; try omega)).trans (by simp [go_sem])
  have fz1 : w1.frozen? ⟨w.heap.size + 1, 1, none⟩ = false := (hb.frozen (p := ⟨w.heap.size + 1, 1, none⟩) (by simp; try omega)).trans (by simp [go_sem])
  have HO := Lib.hid hO
  have HB := Lib.hid (HB0.out.trans (hb.mono (by simp; try omega)))
  have hs1 := hb.size
  clear hb hO
  go_wp2_with fail
  refine bodyPost_ret (v := .agg #[.string f0, .slice B1 n1 k1]) (by simp [results, Try.results30, go_sem, y0, y1, z0, z1]) rfl ?_
  have hbw := HB.out
  refine ⟨B1, k1, rfl, ((HO.out.same (fun b hb _ => ?_)).mono (fun b hb => ?_)), by go_grown⟩
  · simp at hb
    repeat (rw [Below.heap_setCell _ _ _ _ (by simp; omega)])
  · simp at hb hs1 ⊢
    omega
theorem ownScript {w : World} {Iv : Nat → Prop} {f0 : ByteArray} {L1 : List Dat} {B1 : Option Addr} {n1 k1 : Nat} (hO1 : Owns w (.l L1) [.slice B1 n1 k1] Iv) : Owns w (.r [.s f0, .l L1]) [.string f0, .slice B1 n1 k1] Iv := by
  exact ⟨[.string f0], _, (fun _ => False), Iv, rfl, (fun b hb => hb.elim), (fun b hb => hb), (fun b hb hb' => hb.elim), rfl, ⟨[.slice B1 n1 k1], _, Iv, (fun _ => False), rfl, (fun b hb => hb), (fun b hb => hb.elim), (fun b hb hb' => hb'.elim), hO1, rfl⟩⟩
theorem zeroScript (w : World) : Owns w (.r [.s ⟨#[]⟩, .l []]) (#[.string ⟨#[]⟩, .slice none 0 0] : Array Value).toList (fun _ => False) := by
  exact ⟨[.string ⟨#[]⟩], _, (fun _ => False), (fun _ => False), rfl, (fun b hb => hb), (fun b hb => hb), (fun b hb _ => hb), rfl, ⟨[.slice none 0 0], _, (fun _ => False), (fun _ => False), rfl, (fun b hb => hb), (fun b hb => hb), (fun b hb _ => hb), ⟨none, 0, 0, rfl, rfl, Or.inl rfl⟩, rfl⟩⟩
theorem infoScript : (Try.prog.info? 34).map (fun i => (i.zero, i.size, i.bytes)) = some (some (.agg #[.string ⟨#[]⟩, .slice none 0 0]), 2, 40) := by kernel_rfl
set_option maxRecDepth 100000 in
set_option maxHeartbeats 2000000 in
theorem toScriptS (L : List Dat) (A : Option Addr) (n c : Nat) (w : World) (h : Lies w (.l L) [.slice A n c]) (ht : ∀ x ∈ L, Has tyScript x) (hq : (Dat.l L).bulk ≤ 1099511627776) : Calls Try.prog 33 #[.slice A n c] w (FreshD L w) := by
  obtain ⟨i0, hi, hz0, hz1, hz2⟩ := info_parts infoScript
  have H := Lib.hid h
  have HT := Lib.hid ht
  have hn : n ≤ 1099511627776 := by have := h.count; simp only [Dat.bulk] at hq; omega
  clear h ht
  go_enter Try.func33, Try.ntmps33
  go_wp2_with (refine wpList_make_full _ rfl _ _ 24 rfl w.heap.size 34 i0 (.agg #[.string ⟨#[]⟩, .slice none 0 0]) 2 Try.underlying24 hi hz0 hz1 _ _ (n : Int) (n : Int) n rfl rfl rfl rfl (by rw [hz2]; omega) (by unfold maxLen; omega) (Nat.le_refl _) ?_)
  intro w1 hown hgrow
  have hU : UptoD w 2 L w.heap.size n 0 w1 := UptoD.start (zc := #[.string ⟨#[]⟩, .slice none 0 0]) (zeroScript) rfl hown (Nat.le_refl _) ((Below.refl w.heap.size w).grown hgrow (Nat.le_refl _) (fun k h => by cases h))
  clear hown hgrow
  go_wp2
  go_loopw [4] (fun iv wr => ∃ i : Nat, i ≤ n ∧ iv = .int .i64 i ∧ UptoD w 2 L w.heap.size n i wr) (fun iv _ => n - (intOf iv).toNat)
  case atStart => exact ⟨0, Nat.zero_le _, rfl, hU⟩
  case round =>
    obtain ⟨i, hin, rfl, hUr⟩ := hrel
    clear hU
    by_cases hlt : i < n
    · have hUr' := Lib.hid hUr
      obtain ⟨ds, B, -, -, -, -, -, hb⟩ := hUr
      obtain ⟨b, off, d, xs, rfl, hbw, hzi, hlie, hlen, hcell⟩ := (H.out.below hb).elem (fun x hx => (HT.out x hx).width) hlt
      obtain ⟨f0, L1, A1, n1, c1, rfl, rfl, hf0, hl1, ht1, hm1⟩ := invScript (HT.out d (List.mem_of_getElem? hzi)) hlie
      have r0 : wr.cell? ⟨b, off + i * 2, none⟩ = some (.string f0) := hcell 0 _ rfl
      have r1 : wr.cell? ⟨b, off + i * 2 + 1, none⟩ = some (.slice A1 n1 c1) := hcell 1 _ rfl
      have hq1 : (Dat.l L1).bulk ≤ 1099511627776 := by have h1 := bulk_mem (List.mem_of_getElem? hzi); simp only [Dat.bulk, bulkAll] at h1 hq ⊢; omega
      have HZ := Lib.hid hzi
      have HW := Lib.hid ((HT.out _ (List.mem_of_getElem? hzi)).width)
      have HBR := Lib.hid hb
      have HL1 := Lib.hid hl1
      have HX1 := Lib.hid ht1
      clear hzi hb hcell hlie hl1 ht1
      go_wp2_with (
        with_reducible refine (toScript f0 L1 A1 n1 c1 _ HL1.out HX1.out hq1).mono ?_
        rintro e w2 ⟨B1, k1, rfl, hO1, hb2⟩
        have hsl := hUr'.out.slot hlt hb2
        obtain ⟨u0, s0⟩ : ∃ u, w2.cell? ⟨w.heap.size, i * 2, none⟩ = some u := hsl.1 0 (by omega)
        have t0 := hsl.2 (i * 2)
        obtain ⟨u1, s1⟩ : ∃ u, w2.cell? ⟨w.heap.size, i * 2 + 1, none⟩ = some u := hsl.1 1 (by omega)
        have t1 := hsl.2 (i * 2 + 1)
        have HN := Lib.hid (UptoD.next hUr'.out hlt HZ.out HW.out (ownScript hO1) (fun b hb => hb) hb2)
        clear hsl hb2 hO1)
      go_roundw
      case rel => exact ⟨i + 1, by omega, by go_num, HN.out⟩
      case measure => simp [intOf]; omega
    · obtain rfl : i = n := by omega
      have hUr' := Lib.hid hUr
      clear hUr
      go_wp2_with fail
      go_ret
      exact hUr'.out.ret H.out.count
end Go.Proofs.Ytaepconmjmcbdaa
