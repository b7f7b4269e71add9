/- Chapter 11: the program's numbersOf. -/
import Derived.Test.YtchofnligbgigaaEncV
import Derived.LoopTactic
import Derived.Lib.Hide
import Derived.Deep.QuietTactic
import Derived.BigQuiet
import Derived.Deep.RegionWith
import Derived.Handy
namespace Go.Proofs.Ytchofnligbgigaa
open Go.RowKit
set_option linter.unusedVariables false
set_option linter.unusedSimpArgs false
set_option maxRecDepth 100000 in
set_option maxHeartbeats 8000000 in
theorem implNums (f0 : Int) (f1 : Int) (f2 : Int) (f3 : Int) (f4 : ByteArray) (L5 : List Dat) (A5 : Option Addr) (n5 c5 : Nat) (f6_0 : Int) (f6_1 : Int) (f7 : Int) (f8_0 : Int) (f8_1 : Int) (f8_2 : Int) (w : World) (hl5 : Lies w (.l L5) [.slice A5 n5 c5]) (ht5 : ∀ x ∈ L5, Has tyWire x) (hn5 : n5 ≤ 1099511627776) : Calls Try.prog 40 #[.agg #[.int .i64 f0, .int .i64 f1, .int .i64 f2, .int .i64 f3, .string f4, .slice A5 n5 c5, .int .i64 f6_0, .int .i64 f6_1, .int .i64 f7, .int .i64 f8_0, .int .i64 f8_1, .int .i64 f8_2]] w (Fresh .i64 3 (numsM f0 f1 f2 f3 L5 f6_0 f6_1 f7 f8_0 f8_1 f8_2) w) := by
  obtain ⟨i0, hi, hz0, hz1, hz2⟩ := info_parts infoI
  have hc := hl5.count
  have hE : numsM f0 f1 f2 f3 L5 f6_0 f6_1 f7 f8_0 f8_1 f8_2 = [f0, f1, f2, f3, f7, f8_0, f8_1, f8_2, f6_0, f6_1, (n5 : Int)] ++ flatW L5 := by rw [numsM, hc]
  have HE := Lib.hid hE
  have HC := Lib.hid hc
  have H := Lib.hid hl5
  have HT := Lib.hid ht5
  clear hE hc hl5 ht5
  have R0 : Hid (NumS w w.heap.size (w.heap.size + 1) [.int .i64 f0, .int .i64 f1, .int .i64 f2, .int .i64 f3, .string f4, .slice A5 n5 c5, .int .i64 f6_0, .int .i64 f6_1, .int .i64 f7, .int .i64 f8_0, .int .i64 f8_1, .int .i64 f8_2] ([f0, f1, f2, f3, f7, f8_0, f8_1, f8_2, f6_0, f6_1, (n5 : Int)] ++ flatW (L5.take 0)) ((w.alloc (.cells #[.int .i64 f0, .int .i64 f1, .int .i64 f2, .int .i64 f3, .string f4, .slice A5 n5 c5, .int .i64 f6_0, .int .i64 f6_1, .int .i64 f7, .int .i64 f8_0, .int .i64 f8_1, .int .i64 f8_2] 30)).alloc (.cells #[.int .i64 f0, .int .i64 f1, .int .i64 f2, .int .i64 f3, .int .i64 f7, .int .i64 f8_0, .int .i64 f8_1, .int .i64 f8_2, .int .i64 f6_0, .int .i64 f6_1, .int .i64 (n5 : Int)] 3)) (some ⟨w.heap.size + 1, 0, none⟩) 11 11) := Lib.hid (by
    have h1 := own_lit2 (w.alloc (.cells #[.int .i64 f0, .int .i64 f1, .int .i64 f2, .int .i64 f3, .string f4, .slice A5 n5 c5, .int .i64 f6_0, .int .i64 f6_1, .int .i64 f7, .int .i64 f8_0, .int .i64 f8_1, .int .i64 f8_2] 30)) (w.heap.size + 1) (by simp) [f0, f1, f2, f3, f7, f8_0, f8_1, f8_2, f6_0, f6_1, (n5 : Int)] #[.int .i64 f0, .int .i64 f1, .int .i64 f2, .int .i64 f3, .int .i64 f7, .int .i64 f8_0, .int .i64 f8_1, .int .i64 f8_2, .int .i64 f6_0, .int .i64 f6_1, .int .i64 (n5 : Int)] 11 rfl rfl (by omega)
    have e : [f0, f1, f2, f3, f7, f8_0, f8_1, f8_2, f6_0, f6_1, (n5 : Int)] ++ flatW (L5.take 0) = [f0, f1, f2, f3, f7, f8_0, f8_1, f8_2, f6_0, f6_1, (n5 : Int)] := by simp [flatW]
    rw [e]
    exact ⟨h1, (Box.new w #[.int .i64 f0, .int .i64 f1, .int .i64 f2, .int .i64 f3, .string f4, .slice A5 n5 c5, .int .i64 f6_0, .int .i64 f6_1, .int .i64 f7, .int .i64 f8_0, .int .i64 f8_1, .int .i64 f8_2] 30).alloc _, ((Below.refl _ _).alloc (Nat.le_refl _) _).alloc (by simp) _, by omega, by omega, by simp⟩)
  go_enter Try.func40, Try.ntmps40
  go_wp2
  go_loopw [3, 38] (fun sv iv wr => ∃ (A' : Option Addr) (m cap i : Nat), sv = .slice A' m cap ∧ iv = .int .i64 i ∧ i ≤ n5 ∧ m = 11 + 2 * i ∧ NumS w w.heap.size (w.heap.size + 1) [.int .i64 f0, .int .i64 f1, .int .i64 f2, .int .i64 f3, .string f4, .slice A5 n5 c5, .int .i64 f6_0, .int .i64 f6_1, .int .i64 f7, .int .i64 f8_0, .int .i64 f8_1, .int .i64 f8_2] ([f0, f1, f2, f3, f7, f8_0, f8_1, f8_2, f6_0, f6_1, (n5 : Int)] ++ flatW (L5.take i)) wr A' m cap) (fun _ iv _ => n5 - (intOf iv).toNat)
  case atStart => exact ⟨_, _, _, 0, rfl, rfl, Nat.zero_le _, rfl, R0.out⟩
  case round =>
    obtain ⟨A', m, cap, i, rfl, rfl, hin, hm, hR⟩ := hrel
    have hm1 : m ≤ 11 + 2 * i := by omega
    have HM := Lib.hid hm
    have R := Lib.hid hR
    clear hR R0 hm
    by_cases hlt : i < n5
    · obtain ⟨b, off, d, xs, rfl, hbw, hzi, hlie, hlen, hcell⟩ := (H.out.below R.out.low).elem (fun x hx => (HT.out x hx).width) hlt
      obtain ⟨p0, p1, hd, rfl⟩ := invWire (HT.out d (List.mem_of_getElem? hzi)) hlie
      have r0 : wr.cell? ⟨b, off + i * 2, none⟩ = some (.int .i64 p0) := hcell 0 _ rfl
      have r1 : wr.cell? ⟨b, off + i * 2 + 1, none⟩ = some (.int .i64 p1) := hcell 1 _ rfl
      have HN := Lib.hid (flatW_next (L := L5) (i := i) (p := p0) (q := p1) (by rw [← hd]; exact hzi))
      clear hzi hcell hlie hd
      have B1 : Hid (Below wr.heap.size wr ((wr.alloc (.cells #[.int .i64 p0, .int .i64 p1] 26)).alloc (.cells #[.int .i64 p0, .int .i64 p1] 3))) := Lib.hid (((Below.refl _ _).alloc (Nat.le_refl _) _).alloc (by simp) _)
      have HB := B1
      have HZ := Lib.hid (own_lit2 (wr.alloc (.cells #[.int .i64 p0, .int .i64 p1] 26)) (wr.heap.size + 1) (by simp) [p0, p1] #[.int .i64 p0, .int .i64 p1] 2 rfl rfl (by omega)).rz
      have hlw := R.out.lw
      go_wp2_with (at_builtin; refine wpList_append_rz _ rfl _ _ 60 rfl .i64 3 i0 0 8 Try.underlying60 hi hz0 hz1 hz2 (w.heap.size + 1) wr.heap.size A' m cap _ rfl (R.out.own.below HB.out) _ 2 2 [p0, p1] rfl HZ.out (by unfold maxLen; omega) (by omega) (by simp; omega) ?_; intro A3 c3 w3 hO3 hS3; have R3 := Lib.hid (R.out.next HB.out hO3 hS3); clear hO3 hS3)
      go_roundw
      case rel => exact ⟨A3, m + 2, c3, i + 1, rfl, by go_num, by omega, by have := HM.out; omega, by rw [HN.out, ← List.append_assoc]; exact R3.out⟩
      case measure => simp [intOf]; omega
    · obtain rfl : n5 = i := by omega
      have HF : Hid (L5.take n5 = L5) := Lib.hid (List.take_of_length_le (by rw [HC.out]; exact Nat.le_refl _))
      go_wp2
      go_ret
      have hr := R.out
      rw [HF.out] at hr
      rw [HE.out]
      exact Fresh.ret (hr.own.less (by omega)) hr.low
end Go.Proofs.Ytchofnligbgigaa
