/- Chapter 11: the program's readNumbers. -/
import Derived.Test.YtchofnligbgigaaDecV
import Derived.WalkMore
import Derived.LoopTactic
import Derived.Lib.Hide
import Derived.Deep.QuietTactic
import Derived.BigQuiet
import Derived.Deep.RegionWith
import Derived.Handy
namespace Go.Proofs.Ytchofnligbgigaa
open Go.RowKit
set_option linter.unusedVariables false
set_option linter.unusedSimpArgs false
set_option maxRecDepth 100000 in
set_option maxHeartbeats 4000000 in
theorem implReadN (A : Option Addr) (n c : Nat) (zs : List Int) (w : World) (h : Rz .u8 w A n zs) (hby : Byt zs) (hn : n ≤ 549755813888) :
    Calls Try.prog 41 #[.slice A n c] w (GivesRN zs w) := by
  have hln := h.1
  have HLN := Lib.hid hln
  have H := Lib.hid h
  have HBY := Lib.hid hby
  clear h hby hln
  have HST := Lib.hid (RdS.start zs)
  obtain ⟨i0, hi, hz0, hz1, hz2⟩ := info_parts infoI
  go_enter Try.func41, Try.ntmps41
  go_wp2
  go_step3
  go_wp2
  go_step3
  go_wp2
  go_loopw [5, 6, 7] (fun nv ev wv wr => ∃ (A' : Option Addr) (m c' o wd : Nat) (pre : List Int), nv = .slice A' m c' ∧ ev = .int .i64 o ∧ wv = .int .i64 wd ∧ RdS zs m wd o pre ∧ Own .i64 3 w.heap.size wr.heap.size wr A' m c' pre ∧ Below w.heap.size w wr) (fun _ ev _ _ => n - (intOf ev).toNat)
  case atStart => exact ⟨_, _, _, 0, 11, [], rfl, rfl, rfl, HST.out, (Own.none_ .i64 3 w).more (by simp) (Nat.le_refl _), (Below.refl _ _).alloc (Nat.le_refl _) _⟩
  case round =>
    obtain ⟨A', m, c', o, wd, pre, rfl, rfl, rfl, hD, hO, hB⟩ := hrel
    have hol : o ≤ n := by have h1 := hD.ol; have h2 := HLN.out; omega
    obtain ⟨hwd, hm15⟩ := hD.wd15
    have hs := hB.size
    have HD := Lib.hid hD
    have HO := Lib.hid hO
    have HB := Lib.hid hB
    clear hD hO hB
    by_cases hlt : m < wd
    · have hne : ((m : Int) == (wd : Int)) = false := by rw [beq_eq_false_iff_ne]; omega
      rcases hR : readU zs (o : Int) with _ | ⟨v, k⟩
      · have HNO := Lib.hid (HD.out.fail hlt hR)
        have HV := Lib.hid (readV_no hR)
        clear hR
        by_cases h10 : m = 10
        · have hb10 : ((m : Int) == 10) = true := by rw [beq_iff_eq]; omega
          clear h10
          go_wp2_with ((with_reducible refine (implReadV A n _ zs o _ _ HV.out (H.out.below HB.out) HBY.out hn (by omega) (by omega)).mono ?_); rintro e w2 ⟨rfl, hb2⟩; have HB2 := Lib.hid hb2; have hs2 := hb2.size; have HO2 := Lib.hid (HO.out.below hb2); clear hb2)
          (try rw [Exit.noGoto_ret])
          go_ret3
          exact GivesRN.no (HO2.out.more hs2 (Nat.le_refl _)) (HB.out.trans (HB2.out.mono hs)) rfl HNO.out
        · have hb10 : ((m : Int) == 10) = false := by rw [beq_eq_false_iff_ne]; omega
          go_wp2_with ((with_reducible refine (implReadV A n _ zs o _ _ HV.out (H.out.below HB.out) HBY.out hn (by omega) (by omega)).mono ?_); rintro e w2 ⟨rfl, hb2⟩; have HB2 := Lib.hid hb2; have hs2 := hb2.size; have HO2 := Lib.hid (HO.out.below hb2); clear hb2)
          (try rw [Exit.noGoto_ret])
          go_ret3
          exact GivesRN.no (HO2.out.more hs2 (Nat.le_refl _)) (HB.out.trans (HB2.out.mono hs)) rfl HNO.out
      · have hp := put_readU HBY.out hR
        have hok : o + k ≤ n := by have h2 := HLN.out; omega
        have hk1 : 1 ≤ k := by omega
        have hv0 : v ≤ 1000000000000 := by omega
        have HV := Lib.hid (readV_some hR)
        by_cases h10 : m = 10
        · have hD10 := HD.out
          rw [h10] at hD10
          have hw11 : wd = 11 := hD10.wd11
          have hb10 : ((m : Int) == 10) = true := by rw [beq_iff_eq]; omega
          have HM := Lib.hid h10
          have HW := Lib.hid hw11
          by_cases hv : v ≤ 2
          · have hD2 := hD10.few HBY.out hR hv
            have hv2 : ¬ (2 : Int) < (v : Int) := by omega
            have hv3 : (decide ((2 : Int) < (v : Int))) = false := decide_eq_false hv2
            have HD2 : Hid (RdS zs (m + 1) (wd + v * 2) (o + k) (pre ++ [(v : Int)])) := Lib.hid (by rw [h10, hw11]; exact hD2)
            clear hR hD10 hw11 hD2 hp h10
            go_wp2_with (first
              | ((with_reducible refine (implReadV A n _ zs o _ _ HV.out (H.out.below HB.out) HBY.out hn (by omega) (by omega)).mono ?_); rintro e w2 ⟨rfl, hb2⟩; have HB2 := Lib.hid hb2; have hs2 := hb2.size; have HO2 := Lib.hid (HO.out.below hb2); clear hb2)
              | (at_builtin; refine wpList_append_rz _ rfl _ _ 60 rfl .i64 3 i0 0 8 Try.underlying60 hi hz0 hz1 hz2 w.heap.size wr.heap.size A' m c' _ rfl (HO2.out.alloc _) _ 1 1 [_] rfl (Rz.one _ _ _ _) (by unfold maxLen; omega) (by omega) (by simp; omega) ?_; intro A3 c3 w3 hO3 hS3; have HO3 := Lib.hid hO3; have HB3 := Lib.hid ((HB.out.trans (HB2.out.mono hs)).trans (((Below.refl _ _).alloc (by omega) _).trans (hS3.low (by simp; omega)))); clear hO3 hS3))
            go_roundw
            case rel => exact ⟨A3, m + 1, c3, o + k, wd + v * 2, pre ++ [(v : Int)], rfl, by go_num, by go_num, HD2.out, HO3.out, HB3.out⟩
            case measure => simp [intOf]; omega
          · have HNO := Lib.hid (hD10.many hR (by omega))
            have hv2 : (2 : Int) < (v : Int) := by omega
            have hv3 : (decide ((2 : Int) < (v : Int))) = true := decide_eq_true hv2
            clear hR hD10 hw11 hp h10
            go_wp2_with ((with_reducible refine (implReadV A n _ zs o _ _ HV.out (H.out.below HB.out) HBY.out hn (by omega) (by omega)).mono ?_); rintro e w2 ⟨rfl, hb2⟩; have HB2 := Lib.hid hb2; have hs2 := hb2.size; have HO2 := Lib.hid (HO.out.below hb2); clear hb2)
            (try rw [Exit.noGoto_ret])
            go_ret3
            exact GivesRN.no (HO2.out.more hs2 (Nat.le_refl _)) (HB.out.trans (HB2.out.mono hs)) rfl HNO.out
        · have hb10 : ((m : Int) == 10) = false := by rw [beq_eq_false_iff_ne]; omega
          have HD2 := Lib.hid (HD.out.next HBY.out hlt h10 hR)
          clear hR hp
          go_wp2_with (first
            | ((with_reducible refine (implReadV A n _ zs o _ _ HV.out (H.out.below HB.out) HBY.out hn (by omega) (by omega)).mono ?_); rintro e w2 ⟨rfl, hb2⟩; have HB2 := Lib.hid hb2; have hs2 := hb2.size; have HO2 := Lib.hid (HO.out.below hb2); clear hb2)
            | (at_builtin; refine wpList_append_rz _ rfl _ _ 60 rfl .i64 3 i0 0 8 Try.underlying60 hi hz0 hz1 hz2 w.heap.size wr.heap.size A' m c' _ rfl (HO2.out.alloc _) _ 1 1 [_] rfl (Rz.one _ _ _ _) (by unfold maxLen; omega) (by omega) (by simp; omega) ?_; intro A3 c3 w3 hO3 hS3; have HO3 := Lib.hid hO3; have HB3 := Lib.hid ((HB.out.trans (HB2.out.mono hs)).trans (((Below.refl _ _).alloc (by omega) _).trans (hS3.low (by simp; omega)))); clear hO3 hS3))
          go_roundw
          case rel => exact ⟨A3, m + 1, c3, o + k, wd, pre ++ [(v : Int)], rfl, by go_num, rfl, HD2.out, HO3.out, HB3.out⟩
          case measure => simp [intOf]; omega
    · obtain ⟨hN, hmw⟩ := HD.out.done hlt
      have HN := Lib.hid hN
      have hne : ((m : Int) == (wd : Int)) = true := by rw [beq_iff_eq]; omega
      clear hN hmw
      go_wp2_with fail
      (try rw [Exit.noGoto_ret])
      go_ret3
      exact GivesRN.yes HO.out HB.out rfl rfl HN.out
end Go.Proofs.Ytchofnligbgigaa
