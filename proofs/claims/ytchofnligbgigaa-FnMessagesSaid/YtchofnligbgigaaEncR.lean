/- Chapter 11: the reference's EncodeMessage. -/
import Derived.Test.YtchofnligbgigaaEncV
import Derived.Test.YtchofnligbgigaaIsMS
import Derived.Test.YtchofnligbgigaaLawM0
import Derived.Test.YtchofnligbgigaaAppD
import Derived.Deep.RegionHeld3
import Derived.Deep.RegionLaw
import Derived.LoopTactic
import Derived.Lib.Hide
import Derived.Deep.QuietTactic
import Derived.BigQuiet
import Derived.Deep.RegionWith
import Derived.Handy
namespace Go.Proofs.Ytchofnligbgigaa
open Go.RowKit
set_option linter.unusedVariables false
set_option linter.unusedSimpArgs false
set_option maxRecDepth 100000 in
set_option maxHeartbeats 16000000 in
theorem specEnc (f0 : Int) (f1 : Int) (f2 : Int) (f3 : Int) (f4 : ByteArray) (L5 : List Dat) (A5 : Option Addr) (n5 c5 : Nat) (f6_0 : Int) (f6_1 : Int) (f7 : Int) (f8_0 : Int) (f8_1 : Int) (f8_2 : Int) (w : World) (hl5 : Lies w (.l L5) [.slice A5 n5 c5]) (ht5 : ∀ x ∈ L5, Has tyWire x) (hn5 : n5 ≤ 1099511627776) (hs4 : f4.size ≤ 140737488351232) : Calls Try.prog 27 #[.agg #[.int .i64 f0, .int .i64 f1, .int .i64 f2, .int .i64 f3, .string f4, .slice A5 n5 c5, .int .i64 f6_0, .int .i64 f6_1, .int .i64 f7, .int .i64 f8_0, .int .i64 f8_1, .int .i64 f8_2]] w (Fresh .u8 5 (encM f0 f1 f2 f3 f4 L5 f6_0 f6_1 f7 f8_0 f8_1 f8_2) w) := by
  obtain ⟨i0, hi, hz0, hz1, hz2⟩ := info_parts infoI
  have hc := hl5.count
  have HC := Lib.hid hc
  have HL5 := Lib.hid hl5
  have HT5 := Lib.hid ht5
  clear hc hl5 ht5
  have X := (Held.start w).push #[.int .i64 f0, .int .i64 f1, .int .i64 f2, .int .i64 f3, .string f4, .slice A5 n5 c5, .int .i64 f6_0, .int .i64 f6_1, .int .i64 f7, .int .i64 f8_0, .int .i64 f8_1, .int .i64 f8_2] 30
  replace X := Lib.hid X
  rcases hv : msgB f0 f1 f2 f3 f4 L5 f6_0 f6_1 f7 f8_0 f8_1 f8_2 with _ | _
  · have HE : Hid (([] : List Int) = encM f0 f1 f2 f3 f4 L5 f6_0 f6_1 f7 f8_0 f8_1 f8_2) := Lib.hid (by rw [encM, hv]; rfl)
    have HV := Lib.hid hv
    clear hv
    go_enter Try.func27, Try.ntmps27
    go_wp2_with fail
    refine (specIsMsg f0 f1 f2 f3 f4 L5 A5 n5 c5 f6_0 f6_1 f7 f8_0 f8_1 f8_2 _ (HL5.out.below X.out.1) HT5.out hn5 hs4).mono ?_
    rintro e w1 ⟨rfl, hb⟩
    rw [HV.out]
    have hs := hb.size
    replace X := Lib.hid (X.out.below hb)
    clear hb
    go_wp2_with fail
    go_ret
    rw [← HE.out]
    exact Fresh.ret (((Own.none_ .u8 5 _).less (X.out.1.size)).more (by simp) (Nat.le_refl _)) (X.out.1.trans ((Below.refl _ _).alloc X.out.1.size _))
  · have hin := msg_in hv
    have hL2 := hin.i5.1
    have hs46 := hin.i4
    have HBD : Hid (∀ z ∈ numsM f0 f1 f2 f3 L5 f6_0 f6_1 f7 f8_0 f8_1 f8_2, -9223372036854775808 ≤ z ∧ z ≤ 9223372036854775807) := Lib.hid (fun z hz => by have h1 := nums_in hin z hz; omega)
    have HLEN := Lib.hid (nums_len f0 f1 f2 f3 L5 f6_0 f6_1 f7 f8_0 f8_1 f8_2)
    have HE : Hid (encL (numsM f0 f1 f2 f3 L5 f6_0 f6_1 f7 f8_0 f8_1 f8_2) ++ encU ((strI f4).length : Int) ++ strI f4 = encM f0 f1 f2 f3 f4 L5 f6_0 f6_1 f7 f8_0 f8_1 f8_2) := Lib.hid (by rw [encM, if_pos hv])
    have HV := Lib.hid hv
    clear hv hin
    obtain ⟨Ff, Af, cf, hcv, hCV⟩ := conv_fun f4
    have HCV := Lib.hid hCV
    clear hCV
    go_enter Try.func27, Try.ntmps27
    go_wp2_with fail
    refine (specIsMsg f0 f1 f2 f3 f4 L5 A5 n5 c5 f6_0 f6_1 f7 f8_0 f8_1 f8_2 _ (HL5.out.below X.out.1) HT5.out hn5 hs4).mono ?_
    rintro e w1 ⟨rfl, hb⟩
    rw [HV.out]
    replace X := Lib.hid (X.out.below hb)
    clear hb
    obtain ⟨x0, x1, x2, x3, x4, x5, x6, x7, x8, x9, x10, x11⟩ := (X.out.box (g := w.heap.size) (cs := [.int .i64 f0, .int .i64 f1, .int .i64 f2, .int .i64 f3, .string f4, .slice A5 n5 c5, .int .i64 f6_0, .int .i64 f6_1, .int .i64 f7, .int .i64 f8_0, .int .i64 f8_1, .int .i64 f8_2]) (by repeat (first | exact List.mem_cons_self | refine List.mem_cons_of_mem _ ?_))).c12
    have H := HL5
    have HT := HT5
    have HF0 : Hid (numsM f0 f1 f2 f3 L5 f6_0 f6_1 f7 f8_0 f8_1 f8_2 = [f0, f1, f2, f3, f7, f8_0, f8_1, f8_2, f6_0, f6_1, (n5 : Int)] ++ flatW L5) := Lib.hid (by rw [numsM, HC.out])
    have hw1 := X.out.1.size
    have hg1 := (X.out.box (g := w.heap.size) (cs := [.int .i64 f0, .int .i64 f1, .int .i64 f2, .int .i64 f3, .string f4, .slice A5 n5 c5, .int .i64 f6_0, .int .i64 f6_1, .int .i64 f7, .int .i64 f8_0, .int .i64 f8_1, .int .i64 f8_2]) (by repeat (first | exact List.mem_cons_self | refine List.mem_cons_of_mem _ ?_))).1
    have R0 : Hid (NumS w w.heap.size w1.heap.size [.int .i64 f0, .int .i64 f1, .int .i64 f2, .int .i64 f3, .string f4, .slice A5 n5 c5, .int .i64 f6_0, .int .i64 f6_1, .int .i64 f7, .int .i64 f8_0, .int .i64 f8_1, .int .i64 f8_2] ([f0, f1, f2, f3, f7, f8_0, f8_1, f8_2, f6_0, f6_1, (n5 : Int)] ++ flatW (L5.take 0)) (w1.alloc (.cells #[.int .i64 f0, .int .i64 f1, .int .i64 f2, .int .i64 f3, .int .i64 f7, .int .i64 f8_0, .int .i64 f8_1, .int .i64 f8_2, .int .i64 f6_0, .int .i64 f6_1, .int .i64 (n5 : Int)] 3)) (some ⟨w1.heap.size, 0, none⟩) 11 11) := Lib.hid (by
      have h1 := own_lit2 w1 w1.heap.size rfl [f0, f1, f2, f3, f7, f8_0, f8_1, f8_2, f6_0, f6_1, (n5 : Int)] #[.int .i64 f0, .int .i64 f1, .int .i64 f2, .int .i64 f3, .int .i64 f7, .int .i64 f8_0, .int .i64 f8_1, .int .i64 f8_2, .int .i64 f6_0, .int .i64 f6_1, .int .i64 (n5 : Int)] 11 rfl rfl (by omega)
      have e : [f0, f1, f2, f3, f7, f8_0, f8_1, f8_2, f6_0, f6_1, (n5 : Int)] ++ flatW (L5.take 0) = [f0, f1, f2, f3, f7, f8_0, f8_1, f8_2, f6_0, f6_1, (n5 : Int)] := by simp [flatW]
      rw [e]
      exact ⟨h1, (X.out.box (g := w.heap.size) (cs := [.int .i64 f0, .int .i64 f1, .int .i64 f2, .int .i64 f3, .string f4, .slice A5 n5 c5, .int .i64 f6_0, .int .i64 f6_1, .int .i64 f7, .int .i64 f8_0, .int .i64 f8_1, .int .i64 f8_2]) (by repeat (first | exact List.mem_cons_self | refine List.mem_cons_of_mem _ ?_))).alloc _, X.out.1.trans ((Below.refl _ _).alloc X.out.1.size _), hg1, hw1, by simp⟩)
    go_wp2
    go_loopw [3, 4] (fun sv iv wr => ∃ (A' : Option Addr) (m cap i : Nat), sv = .slice A' m cap ∧ iv = .int .i64 i ∧ i ≤ n5 ∧ m = 11 + 2 * i ∧ NumS w w.heap.size w1.heap.size [.int .i64 f0, .int .i64 f1, .int .i64 f2, .int .i64 f3, .string f4, .slice A5 n5 c5, .int .i64 f6_0, .int .i64 f6_1, .int .i64 f7, .int .i64 f8_0, .int .i64 f8_1, .int .i64 f8_2] ([f0, f1, f2, f3, f7, f8_0, f8_1, f8_2, f6_0, f6_1, (n5 : Int)] ++ flatW (L5.take i)) wr A' m cap) (fun _ iv _ => n5 - (intOf iv).toNat)
    case atStart => exact ⟨_, _, _, 0, rfl, rfl, Nat.zero_le _, rfl, R0.out⟩
    case round =>
      obtain ⟨A', m, cap, i, rfl, rfl, hin, hm, hR⟩ := hrel
      have hm1 : m ≤ 11 + 2 * i := by omega
      have HM := Lib.hid hm
      have R := Lib.hid hR
      clear hR R0 hm x0 x1 x2 x3 x4 x5 x6 x7 x8 x9 x10 x11
      by_cases hlt : i < n5
      · obtain ⟨b, off, d, xs, rfl, hbw, hzi, hlie, hlen, hcell⟩ := (H.out.below R.out.low).elem (fun x hx => (HT.out x hx).width) hlt
        obtain ⟨p0, p1, hd, rfl⟩ := invWire (HT.out d (List.mem_of_getElem? hzi)) hlie
        have r0 : wr.cell? ⟨b, off + i * 2, none⟩ = some (.int .i64 p0) := hcell 0 _ rfl
        have r1 : wr.cell? ⟨b, off + i * 2 + 1, none⟩ = some (.int .i64 p1) := hcell 1 _ rfl
        have HN := Lib.hid (flatW_next (L := L5) (i := i) (p := p0) (q := p1) (by rw [← hd]; exact hzi))
        clear hzi hcell hlie hd
        have x5 := R.out.box.2 5 (.slice (some ⟨b, off, none⟩) n5 c5) rfl
        have HB : Hid (Below wr.heap.size wr (wr.alloc (.cells #[.int .i64 p0, .int .i64 p1] 3)).drew) := Lib.hid ((Below.refl _ _).alloc (Nat.le_refl _) _).drew
        have HZ : Hid (Rz .i64 (wr.alloc (.cells #[.int .i64 p0, .int .i64 p1] 3)).drew (some ⟨wr.heap.size, 0, none⟩) 2 [p0, p1]) := Lib.hid ((own_lit2 wr wr.heap.size rfl [p0, p1] #[.int .i64 p0, .int .i64 p1] 2 rfl rfl (by omega)).rz.below (Below.refl _ _).drew)
        have HLQ := Lib.hid (Nat.le_trans R.out.lw HB.out.size)
        go_wp2_with fail
        go_region_law (first
          | (refine step_append_rz _ rfl _ _ 60 rfl .i64 3 i0 0 8 Try.underlying60 hi hz0 hz1 hz2 w1.heap.size wr.heap.size A' m cap _ rfl (R.out.own.below HB.out) _ 2 2 [p0, p1] rfl HZ.out (by unfold maxLen; omega) (by omega) HLQ.out ?_; intro A3 c3 w3 hO3 hS3; have R3 := Lib.hid (R.out.next HB.out hO3 hS3); clear hO3 hS3))
        all_goals (
          go_wp2_with fail
          go_roundw
          case rel => exact ⟨A3, m + 2, c3, i + 1, rfl, by go_num, by omega, by have := HM.out; omega, by rw [HN.out, ← List.append_assoc]; exact R3.out⟩
          case measure => simp [intOf]; omega)
      · obtain rfl : n5 = i := by omega
        have HF : Hid ([f0, f1, f2, f3, f7, f8_0, f8_1, f8_2, f6_0, f6_1, (n5 : Int)] ++ flatW (L5.take n5) = numsM f0 f1 f2 f3 L5 f6_0 f6_1 f7 f8_0 f8_1 f8_2) := Lib.hid (by rw [HF0.out, List.take_of_length_le (by rw [HC.out]; exact Nat.le_refl _)])
        rw [HF.out] at R
        obtain ⟨x0, x1, x2, x3, x4, x5, x6, x7, x8, x9, x10, x11⟩ := R.out.box.c12
        have hkn : m ≤ 68719476736 := by have h1 := R.out.own.1; rw [HLEN.out] at h1; omega
        go_wp2_with fail
        have HX : Hid (Below w.heap.size w wr.drew) := Lib.hid R.out.low.drew
        have BX : Hid (Box w.heap.size [.int .i64 f0, .int .i64 f1, .int .i64 f2, .int .i64 f3, .string f4, .slice A5 n5 c5, .int .i64 f6_0, .int .i64 f6_1, .int .i64 f7, .int .i64 f8_0, .int .i64 f8_1, .int .i64 f8_2] wr.drew) := Lib.hid R.out.box.drew
        have HRn : Hid (Rz .i64 wr.drew A' m (numsM f0 f1 f2 f3 L5 f6_0 f6_1 f7 f8_0 f8_1 f8_2)) := Lib.hid (R.out.own.rz.below ((Below.refl _ _).drew))
        have HR1 : Hid (Rz .u8 wr.drew none 0 []) := Lib.hid Rz.nil
        have HR2 : Hid (Rz .u8 wr.drew none 0 []) := Lib.hid Rz.nil
        obtain ⟨z0, z1, z2, z3, z4, z5, z6, z7, z8, z9, z10, z11⟩ := (BX.out.below (HCV.out _).2).c12
        go_region_law (first
          | (go_simp; go_at_call 63; (first | (with_reducible refine (specEncL A' m cap (numsM f0 f1 f2 f3 L5 f6_0 f6_1 f7 f8_0 f8_1 f8_2) _ HRn.out HBD.out hkn).mono ?_) | (replace HX := Lib.hid (HX.out.trans ((HCV.out _).2.mono HX.out.size)); replace BX := Lib.hid (BX.out.below (HCV.out _).2); replace HRn := Lib.hid (HRn.out.below (HCV.out _).2); replace HR1 := Lib.hid (HR1.out.below (HCV.out _).2); replace HR2 := Lib.hid (HCV.out wr.drew).1; (with_reducible refine (specEncL A' m cap (numsM f0 f1 f2 f3 L5 f6_0 f6_1 f7 f8_0 f8_1 f8_2) _ HRn.out HBD.out hkn).mono ?_))); have hu := HX.out.size; rintro e u2 ⟨A1, k1, d1, rfl, hO, hb⟩; replace HX := Lib.hid (HX.out.trans (hb.mono HX.out.size)); replace BX := Lib.hid (BX.out.below hb); have hk1 : k1 ≤ 549755813888 := (by have h1 := hO.1; have h2 := encL_len (numsM f0 f1 f2 f3 L5 f6_0 f6_1 f7 f8_0 f8_1 f8_2); rw [HLEN.out] at h2; omega); replace HRn := Lib.hid (HRn.out.below hb); replace HR1 := Lib.hid hO.rz; replace HR2 := Lib.hid (HR2.out.below hb); have y2 := BX.out.2 4 (.string f4) rfl; clear hO hb)
          | (go_simp; go_at_call 62; (first | (with_reducible refine (specAppB' A1 k1 d1 (encL (numsM f0 f1 f2 f3 L5 f6_0 f6_1 f7 f8_0 f8_1 f8_2)) _ f4.size _ (strI f4) _ HR1.out HR2.out hk1 (by omega)).mono ?_) | (replace HX := Lib.hid (HX.out.trans ((HCV.out _).2.mono HX.out.size)); replace BX := Lib.hid (BX.out.below (HCV.out _).2); replace HRn := Lib.hid (HRn.out.below (HCV.out _).2); replace HR1 := Lib.hid (HR1.out.below (HCV.out _).2); replace HR2 := Lib.hid (HCV.out u2).1; (with_reducible refine (specAppB' A1 k1 d1 (encL (numsM f0 f1 f2 f3 L5 f6_0 f6_1 f7 f8_0 f8_1 f8_2)) _ f4.size _ (strI f4) _ HR1.out HR2.out hk1 (by omega)).mono ?_))); have hu := HX.out.size; rintro e u4 ⟨A3, k3, d3, rfl, hO, hb⟩; replace HX := Lib.hid (HX.out.trans (hb.mono HX.out.size)); replace BX := Lib.hid (BX.out.below hb); have HO3 := Lib.hid hO; have y4 := BX.out.2 4 (.string f4) rfl; clear hO hb))
        all_goals (
          go_wp2_with fail
          go_ret
          rw [← HE.out]
          exact Fresh.ret (HO3.out.less (by omega)) HX.out)
end Go.Proofs.Ytchofnligbgigaa
