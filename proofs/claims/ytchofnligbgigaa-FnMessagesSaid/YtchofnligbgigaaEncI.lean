/- Chapter 11: the program's EncodeMessage. -/
import Derived.Test.YtchofnligbgigaaEncN
import Derived.Test.YtchofnligbgigaaIsMI
import Derived.Test.YtchofnligbgigaaLawM0
import Derived.Deep.RegionHeld3
import Derived.Deep.RegionLaw
import Derived.LoopTactic
import Derived.Lib.Hide
import Derived.Deep.QuietTactic
import Derived.BigQuiet
import Derived.Deep.RegionWith
import Derived.Handy
namespace Go.Proofs.Ytchofnligbgigaa
open Go.RowKit
set_option linter.unusedVariables false
set_option linter.unusedSimpArgs false
set_option maxRecDepth 100000 in
set_option maxHeartbeats 16000000 in
theorem implEnc (f0 : Int) (f1 : Int) (f2 : Int) (f3 : Int) (f4 : ByteArray) (L5 : List Dat) (A5 : Option Addr) (n5 c5 : Nat) (f6_0 : Int) (f6_1 : Int) (f7 : Int) (f8_0 : Int) (f8_1 : Int) (f8_2 : Int) (w : World) (hl5 : Lies w (.l L5) [.slice A5 n5 c5]) (ht5 : ∀ x ∈ L5, Has tyWire x) (hn5 : n5 ≤ 1099511627776) : Calls Try.prog 12 #[.agg #[.int .i64 f0, .int .i64 f1, .int .i64 f2, .int .i64 f3, .string f4, .slice A5 n5 c5, .int .i64 f6_0, .int .i64 f6_1, .int .i64 f7, .int .i64 f8_0, .int .i64 f8_1, .int .i64 f8_2]] w (Fresh .u8 5 (encM f0 f1 f2 f3 f4 L5 f6_0 f6_1 f7 f8_0 f8_1 f8_2) w) := by
  obtain ⟨i0, hi, hz0, hz1, hz2⟩ := info_parts infoI
  have hc := hl5.count
  have HC := Lib.hid hc
  have HL5 := Lib.hid hl5
  have HT5 := Lib.hid ht5
  clear hc hl5 ht5
  have X := (Held.start w).push #[.int .i64 f0, .int .i64 f1, .int .i64 f2, .int .i64 f3, .string f4, .slice A5 n5 c5, .int .i64 f6_0, .int .i64 f6_1, .int .i64 f7, .int .i64 f8_0, .int .i64 f8_1, .int .i64 f8_2] 30
  replace X := Lib.hid X
  rcases hv : msgB f0 f1 f2 f3 f4 L5 f6_0 f6_1 f7 f8_0 f8_1 f8_2 with _ | _
  · have HE : Hid (([] : List Int) = encM f0 f1 f2 f3 f4 L5 f6_0 f6_1 f7 f8_0 f8_1 f8_2) := Lib.hid (by rw [encM, hv]; rfl)
    have HV := Lib.hid hv
    clear hv
    go_enter Try.func12, Try.ntmps12
    go_wp2_with fail
    refine (implIsMsg f0 f1 f2 f3 f4 L5 A5 n5 c5 f6_0 f6_1 f7 f8_0 f8_1 f8_2 _ (HL5.out.below X.out.1) HT5.out hn5).mono ?_
    rintro e w1 ⟨rfl, hb⟩
    rw [HV.out]
    have hs := hb.size
    replace X := Lib.hid (X.out.below hb)
    clear hb
    go_wp2_with fail
    go_ret
    rw [← HE.out]
    exact Fresh.ret (((Own.none_ .u8 5 _).less (X.out.1.size)).more (by simp) (Nat.le_refl _)) (X.out.1.trans ((Below.refl _ _).alloc X.out.1.size _))
  · have hin := msg_in hv
    have hL2 := hin.i5.1
    have hs4 := hin.i4
    have HBD : Hid (∀ z ∈ numsM f0 f1 f2 f3 L5 f6_0 f6_1 f7 f8_0 f8_1 f8_2, -9223372036854775808 ≤ z ∧ z ≤ 9223372036854775807) := Lib.hid (fun z hz => by have h1 := nums_in hin z hz; omega)
    have HLEN := Lib.hid (nums_len f0 f1 f2 f3 L5 f6_0 f6_1 f7 f8_0 f8_1 f8_2)
    have HE : Hid (encL (numsM f0 f1 f2 f3 L5 f6_0 f6_1 f7 f8_0 f8_1 f8_2) ++ encU ((strI f4).length : Int) ++ strI f4 = encM f0 f1 f2 f3 f4 L5 f6_0 f6_1 f7 f8_0 f8_1 f8_2) := Lib.hid (by rw [encM, if_pos hv])
    have HV := Lib.hid hv
    clear hv hin
    obtain ⟨Ff, Af, cf, hcv, hCV⟩ := conv_fun f4
    have HCV := Lib.hid hCV
    clear hCV
    go_enter Try.func12, Try.ntmps12
    go_wp2_with fail
    refine (implIsMsg f0 f1 f2 f3 f4 L5 A5 n5 c5 f6_0 f6_1 f7 f8_0 f8_1 f8_2 _ (HL5.out.below X.out.1) HT5.out hn5).mono ?_
    rintro e w1 ⟨rfl, hb⟩
    rw [HV.out]
    replace X := Lib.hid (X.out.below hb)
    clear hb
    obtain ⟨x0, x1, x2, x3, x4, x5, x6, x7, x8, x9, x10, x11⟩ := (X.out.box (g := w.heap.size) (cs := [.int .i64 f0, .int .i64 f1, .int .i64 f2, .int .i64 f3, .string f4, .slice A5 n5 c5, .int .i64 f6_0, .int .i64 f6_1, .int .i64 f7, .int .i64 f8_0, .int .i64 f8_1, .int .i64 f8_2]) (by repeat (first | exact List.mem_cons_self | refine List.mem_cons_of_mem _ ?_))).c12
    go_wp2_with fail
    have HX : Hid (Below w.heap.size w w1.drew) := Lib.hid X.out.1.drew
    have BX : Hid (Box w.heap.size [.int .i64 f0, .int .i64 f1, .int .i64 f2, .int .i64 f3, .string f4, .slice A5 n5 c5, .int .i64 f6_0, .int .i64 f6_1, .int .i64 f7, .int .i64 f8_0, .int .i64 f8_1, .int .i64 f8_2] w1.drew) := Lib.hid (X.out.box (g := w.heap.size) (cs := [.int .i64 f0, .int .i64 f1, .int .i64 f2, .int .i64 f3, .string f4, .slice A5 n5 c5, .int .i64 f6_0, .int .i64 f6_1, .int .i64 f7, .int .i64 f8_0, .int .i64 f8_1, .int .i64 f8_2]) (by repeat (first | exact List.mem_cons_self | refine List.mem_cons_of_mem _ ?_))).drew
    have HR1 : Hid (Rz .u8 w1.drew none 0 []) := Lib.hid Rz.nil
    have HR2 : Hid (Rz .u8 w1.drew none 0 []) := Lib.hid Rz.nil
    have HRn : Hid (Rz .i64 w1.drew none 0 []) := Lib.hid Rz.nil
    obtain ⟨z0, z1, z2, z3, z4, z5, z6, z7, z8, z9, z10, z11⟩ := (BX.out.below (HCV.out _).2).c12
    go_region_law (first
      | (go_simp; go_at_call 40; (first | (with_reducible refine (implNums f0 f1 f2 f3 f4 L5 A5 n5 c5 f6_0 f6_1 f7 f8_0 f8_1 f8_2 _ (HL5.out.below HX.out) HT5.out hn5).mono ?_) | (replace HX := Lib.hid (HX.out.trans ((HCV.out _).2.mono HX.out.size)); replace BX := Lib.hid (BX.out.below (HCV.out _).2); replace HRn := Lib.hid (HRn.out.below (HCV.out _).2); replace HR1 := Lib.hid (HR1.out.below (HCV.out _).2); replace HR2 := Lib.hid (HCV.out w1.drew).1; (with_reducible refine (implNums f0 f1 f2 f3 f4 L5 A5 n5 c5 f6_0 f6_1 f7 f8_0 f8_1 f8_2 _ (HL5.out.below HX.out) HT5.out hn5).mono ?_))); have hu := HX.out.size; rintro e u1 ⟨An, kn, dn, rfl, hO, hb⟩; replace HX := Lib.hid (HX.out.trans (hb.mono HX.out.size)); replace BX := Lib.hid (BX.out.below hb); have hkn : kn ≤ 68719476736 := (by have h1 := hO.1; rw [HLEN.out] at h1; omega); replace HRn := Lib.hid hO.rz; replace HR1 := Lib.hid (HR1.out.below hb); replace HR2 := Lib.hid (HR2.out.below hb); have y1 := BX.out.2 4 (.string f4) rfl; clear hO hb)
      | (go_simp; go_at_call 39; (first | (with_reducible refine (implEncL An kn dn (numsM f0 f1 f2 f3 L5 f6_0 f6_1 f7 f8_0 f8_1 f8_2) _ HRn.out HBD.out hkn).mono ?_) | (replace HX := Lib.hid (HX.out.trans ((HCV.out _).2.mono HX.out.size)); replace BX := Lib.hid (BX.out.below (HCV.out _).2); replace HRn := Lib.hid (HRn.out.below (HCV.out _).2); replace HR1 := Lib.hid (HR1.out.below (HCV.out _).2); replace HR2 := Lib.hid (HCV.out u1).1; (with_reducible refine (implEncL An kn dn (numsM f0 f1 f2 f3 L5 f6_0 f6_1 f7 f8_0 f8_1 f8_2) _ HRn.out HBD.out hkn).mono ?_))); have hu := HX.out.size; rintro e u2 ⟨A1, k1, d1, rfl, hO, hb⟩; replace HX := Lib.hid (HX.out.trans (hb.mono HX.out.size)); replace BX := Lib.hid (BX.out.below hb); have hk1 : k1 ≤ 549755813888 := (by have h1 := hO.1; have h2 := encL_len (numsM f0 f1 f2 f3 L5 f6_0 f6_1 f7 f8_0 f8_1 f8_2); rw [HLEN.out] at h2; omega); replace HRn := Lib.hid (HRn.out.below hb); replace HR1 := Lib.hid hO.rz; replace HR2 := Lib.hid (HR2.out.below hb); have y2 := BX.out.2 4 (.string f4) rfl; clear hO hb)
      | (go_simp; go_at_call 38; (first | (with_reducible refine (implAppB' A1 k1 d1 (encL (numsM f0 f1 f2 f3 L5 f6_0 f6_1 f7 f8_0 f8_1 f8_2)) _ f4.size _ (strI f4) _ HR1.out HR2.out hk1 (by omega)).mono ?_) | (replace HX := Lib.hid (HX.out.trans ((HCV.out _).2.mono HX.out.size)); replace BX := Lib.hid (BX.out.below (HCV.out _).2); replace HRn := Lib.hid (HRn.out.below (HCV.out _).2); replace HR1 := Lib.hid (HR1.out.below (HCV.out _).2); replace HR2 := Lib.hid (HCV.out u2).1; (with_reducible refine (implAppB' A1 k1 d1 (encL (numsM f0 f1 f2 f3 L5 f6_0 f6_1 f7 f8_0 f8_1 f8_2)) _ f4.size _ (strI f4) _ HR1.out HR2.out hk1 (by omega)).mono ?_))); have hu := HX.out.size; rintro e u4 ⟨A3, k3, d3, rfl, hO, hb⟩; replace HX := Lib.hid (HX.out.trans (hb.mono HX.out.size)); replace BX := Lib.hid (BX.out.below hb); have HO3 := Lib.hid hO; have y4 := BX.out.2 4 (.string f4) rfl; clear hO hb))
    all_goals (
      go_wp2_with fail
      go_ret
      rw [← HE.out]
      exact Fresh.ret (HO3.out.less (by omega)) HX.out)
end Go.Proofs.Ytchofnligbgigaa
