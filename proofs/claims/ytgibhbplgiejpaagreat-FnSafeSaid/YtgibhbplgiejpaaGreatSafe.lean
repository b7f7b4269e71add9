/- Chapter 8: IsSafe, both sides. -/
import Derived.Test.YtgibhbplgiejpaaGreatChkD
import Derived.Test.YtgibhbplgiejpaaGreatChkF
namespace Go.Proofs.YtgibhbplgiejpaaGreat
open Go.RowKit
set_option linter.unusedVariables false
set_option linter.unusedSimpArgs false
def safeD (d : Dat) : Bool := isMeth d && decide (implFU (insL (codeOf d)) = -1)
theorem safe_no {nm : ByteArray} {L : List Dat} (h : isMeth (.r [.s nm, .l L]) = false) : false = safeD (.r [.s nm, .l L]) := by rw [safeD, h]; rfl
theorem safe_yes {nm : ByteArray} {L : List Dat} {k : Int} (h : isMeth (.r [.s nm, .l L]) = true) (hk : implFU (insL L) = k) : (k == -1) = safeD (.r [.s nm, .l L]) := by
  rw [safeD, h, Bool.true_and]
  show _ = decide (implFU (insL L) = -1)
  rw [hk, Bool.eq_iff_iff]
  simp
theorem meth_tame {nm : ByteArray} {L : List Dat} (h : isMeth (.r [.s nm, .l L]) = true) : Tame (insL L) := by
  have h1 : (L.all isInsD && isName nm && decide (L.length ≤ 12)) = true := h
  simp only [Bool.and_eq_true] at h1
  refine tame_ok ?_
  rw [insL, List.all_map]
  exact h1.1.1
theorem safe_spec {nm : ByteArray} {L : List Dat} {k : Int} (h : isMeth (.r [.s nm, .l L]) = true) (hk : specFU (insL L) = k) : decide (k < 0) = safeD (.r [.s nm, .l L]) := by
  have h1 := fu_eq (meth_tame h)
  rw [hk] at h1
  rw [← safe_yes h h1.symm, Bool.eq_iff_iff]
  have h2 := (firstP_lt (badF (insL L)) (insL L).length).2
  have h3 : specFU (insL L) = firstP (badF (insL L)) (insL L).length := rfl
  rw [← h3, hk] at h2
  simp
  omega
set_option maxHeartbeats 2000000 in
theorem implSafe (nm : ByteArray) (L : List Dat) (A : Option Addr) (n c : Nat) (w : World) (h : Lies w (.l L) [.slice A n c]) (ht : ∀ x ∈ L, Has tyInstr x) (hq : (Dat.r [.s nm, .l L]).bulk ≤ 1099511627776) : Calls Tryz.prog 13 #[.agg #[.string nm, .slice A n c]] w (GivesBool (safeD (.r [.s nm, .l L])) w) := by
  have hn : n ≤ 1099511627776 := by have := h.count; simp only [Dat.bulk, bulkAll] at hq; omega
  have X0 : Hid (Boxed2 w (.string nm) (.slice A n c) (w.alloc (.cells #[.string nm, .slice A n c] 26))) := Lib.hid (Boxed2.mk_ w _ _ _)
  have H := Lib.hid h
  have HT := Lib.hid ht
  clear h ht
  obtain ⟨v, hv⟩ : ∃ v, isMeth (.r [.s nm, .l L]) = v := ⟨_, rfl⟩
  have HV := Lib.hid hv
  clear hv
  cases v with
  | false =>
    have HE := Lib.hid (safe_no HV.out)
    go_enter Tryz.func13, Tryz.ntmps13
    go_wp2_with fail
    refine (implMeth nm L A n c _ (H.out.below X0.out.2) HT.out (by omega)).mono ?_
    rintro e w2 ⟨rfl, hb⟩
    rw [HV.out]
    have X2 := Lib.hid (X0.out.below hb)
    clear hb X0
    go_wp2_with fail
    go_ret
    exact GivesBool.of HE.out X2.out.2
  | true =>
    obtain ⟨k, hk⟩ : ∃ k, implFU (insL L) = k := ⟨_, rfl⟩
    have HK := Lib.hid hk
    have HE := Lib.hid (safe_yes HV.out hk)
    clear hk
    go_enter Tryz.func13, Tryz.ntmps13
    go_wp2_with fail
    refine (implMeth nm L A n c _ (H.out.below X0.out.2) HT.out (by omega)).mono ?_
    rintro e w2 ⟨rfl, hb⟩
    rw [HV.out]
    have X2 := Lib.hid (X0.out.below hb)
    clear hb X0
    obtain ⟨q0, q1⟩ := X2.out.two
    go_wp2_with fail
    refine (implFUd nm L A n c _ (H.out.below X2.out.2) HT.out hn).mono ?_
    rintro e w3 ⟨rfl, hb⟩
    rw [HK.out]
    have X3 := Lib.hid (X2.out.below hb)
    clear hb X2 q0 q1
    go_wp2_with fail
    go_ret
    exact GivesBool.of HE.out X3.out.2
set_option maxHeartbeats 2000000 in
theorem specSafe (nm : ByteArray) (L : List Dat) (A : Option Addr) (n c : Nat) (w : World) (h : Lies w (.l L) [.slice A n c]) (ht : ∀ x ∈ L, Has tyInstr x) (hq : (Dat.r [.s nm, .l L]).bulk ≤ 1099511627776) : Calls Tryz.prog 45 #[.agg #[.string nm, .slice A n c]] w (GivesBool (safeD (.r [.s nm, .l L])) w) := by
  have hn : n ≤ 1099511627776 := by have := h.count; simp only [Dat.bulk, bulkAll] at hq; omega
  have X0 : Hid (Boxed2 w (.string nm) (.slice A n c) (w.alloc (.cells #[.string nm, .slice A n c] 26))) := Lib.hid (Boxed2.mk_ w _ _ _)
  have H := Lib.hid h
  have HT := Lib.hid ht
  have HQ := Lib.hid hq
  clear h ht hq
  obtain ⟨v, hv⟩ : ∃ v, isMeth (.r [.s nm, .l L]) = v := ⟨_, rfl⟩
  have HV := Lib.hid hv
  clear hv
  cases v with
  | false =>
    have HE := Lib.hid (safe_no HV.out)
    go_enter Tryz.func45, Tryz.ntmps45
    go_wp2_with fail
    refine (specMeth nm L A n c _ (H.out.below X0.out.2) HT.out HQ.out).mono ?_
    rintro e w2 ⟨rfl, hb⟩
    rw [HV.out]
    have X2 := Lib.hid (X0.out.below hb)
    clear hb X0
    go_wp2_with fail
    go_ret
    exact GivesBool.of HE.out X2.out.2
  | true =>
    obtain ⟨k, hk⟩ : ∃ k, specFU (insL L) = k := ⟨_, rfl⟩
    have HK := Lib.hid hk
    have HE := Lib.hid (safe_spec HV.out hk)
    clear hk
    go_enter Tryz.func45, Tryz.ntmps45
    go_wp2_with fail
    refine (specMeth nm L A n c _ (H.out.below X0.out.2) HT.out HQ.out).mono ?_
    rintro e w2 ⟨rfl, hb⟩
    rw [HV.out]
    have X2 := Lib.hid (X0.out.below hb)
    clear hb X0
    obtain ⟨q0, q1⟩ := X2.out.two
    go_wp2_with fail
    refine (specFUd nm L A n c _ (H.out.below X2.out.2) HT.out hn).mono ?_
    rintro e w3 ⟨rfl, hb⟩
    rw [HK.out]
    have X3 := Lib.hid (X2.out.below hb)
    clear hb X2 q0 q1
    go_wp2_with fail
    go_ret
    exact GivesBool.of HE.out X3.out.2
end Go.Proofs.YtgibhbplgiejpaaGreat
