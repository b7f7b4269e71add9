/- FnSafe: everything before the first place that reads an unset register is safe. -/
import Derived.Test.YtgibhbplgiejpaaGreatTyA
import Derived.Test.YtgibhbplgiejpaaGreatDraw8
import Derived.Test.YtgibhbplgiejpaaGreatSafes
import Derived.Test.YtgibhbplgiejpaaGreatMadeS
import Derived.Test.YtgibhbplgiejpaaGreatKnown
import Derived.Deep.RegionHeld3
namespace Go.Proofs.YtgibhbplgiejpaaGreat
open Go.RowKit
set_option linter.unusedVariables false
set_option linter.unusedSimpArgs false
theorem fu_as (L : List I) : implFU L = firstP (badS L (readsL L)) L.length := (implFU_of fun r => Iff.rfl).symm
theorem fu_cut {L : List I} {k : Nat} (h : implFU L = (k : Int)) : k < L.length ∧ implFU (L.take k) = -1 ∧ ∃ x, L[k]? = some x ∧ (regsOf x).length ≠ 0 := by
  rw [fu_as] at h
  rcases firstP_cases (badS L (readsL L)) L.length with ⟨h1, -⟩ | ⟨q, h1, h2, h3, h4⟩
  · rw [h1] at h; omega
  · rw [h1] at h
    obtain rfl : q = k := by omega
    refine ⟨h2, ?_, ?_⟩
    · rw [fu_as]
      refine firstP_none fun j hj => ?_
      rw [List.length_take] at hj
      have e := h4 j (by omega)
      simp only [badS, List.any_eq_false] at e ⊢
      intro r hr
      rw [badR_take (by omega) (by omega)]
      obtain ⟨x, hx, hxr⟩ := List.mem_flatMap.1 hr
      exact e r (List.mem_flatMap.2 ⟨x, List.mem_of_mem_take hx, hxr⟩)
    · have hL : L[q]? = some (L[q]'h2) := List.getElem?_eq_getElem h2
      refine ⟨_, hL, fun hz => ?_⟩
      simp only [badS, List.any_eq_true] at h3
      obtain ⟨r, -, hr⟩ := h3
      rw [badR_no' hL (by rw [List.length_eq_zero_iff.1 hz]; rfl)] at hr
      cases hr
theorem fu_kind (L : List I) : implFU L = -1 ∨ ∃ k : Nat, implFU L = (k : Int) := by
  rw [fu_as]
  rcases firstP_cases (badS L (readsL L)) L.length with ⟨h1, -⟩ | ⟨q, h1, -⟩
  · exact Or.inl h1
  · exact Or.inr ⟨q, h1⟩
theorem implFUV (nm : ByteArray) (L : List Dat) (A : Option Addr) (n c : Nat) (k : Int) (w : World) (h : Lies w (.l L) [.slice A n c]) (ht : ∀ x ∈ L, Has tyInstr x) (hn : n ≤ 1099511627776) (hk : implFU (insL L) = k) :
    Calls Tryz.prog 7 #[.agg #[.string nm, .slice A n c]] w (GivesInt k w) := by subst hk; exact implFUd nm L A n c w h ht hn
theorem specFUV (nm : ByteArray) (L : List Dat) (A : Option Addr) (n c : Nat) (k : Int) (w : World) (h : Lies w (.l L) [.slice A n c]) (ht : ∀ x ∈ L, Has tyInstr x) (hn : n ≤ 1099511627776) (hk : specFU (insL L) = k) :
    Calls Tryz.prog 8 #[.agg #[.string nm, .slice A n c]] w (GivesInt k w) := by subst hk; exact specFUd nm L A n c w h ht hn
theorem implSafeV (nm : ByteArray) (L : List Dat) (A : Option Addr) (n c : Nat) (v : Bool) (w : World) (hv : safeD (.r [.s nm, .l L]) = v) (h : Lies w (.l L) [.slice A n c]) (ht : ∀ x ∈ L, Has tyInstr x) (hq : (Dat.r [.s nm, .l L]).bulk ≤ 1099511627776) : Calls Tryz.prog 13 #[.agg #[.string nm, .slice A n c]] w (GivesBool v w) := by subst hv; exact implSafe nm L A n c w h ht hq
theorem implMethV (nm : ByteArray) (L : List Dat) (A : Option Addr) (n c : Nat) (v : Bool) (w : World) (hv : isMeth (.r [.s nm, .l L]) = v) (h : Lies w (.l L) [.slice A n c]) (ht : ∀ x ∈ L, Has tyInstr x) (hn : n ≤ 9223372036854775807) : Calls Tryz.prog 14 #[.agg #[.string nm, .slice A n c]] w (GivesBool v w) := by subst hv; exact implMeth nm L A n c w h ht hn
theorem implSafesV (L : List Dat) (A : Option Addr) (n c : Nat) (v : Bool) (w : World) (hv : safesD L = v) (h : Lies w (.l L) [.slice A n c]) (ht : ∀ x ∈ L, Has tyScript x) (hq : (Dat.l L).bulk ≤ 1099511627776) : Calls Tryz.prog 15 #[.slice A n c] w (GivesBool v w) := by subst hv; exact implSafes L A n c w h ht hq
theorem specSafesV (L : List Dat) (A : Option Addr) (n c : Nat) (v : Bool) (w : World) (hv : safesD L = v) (h : Lies w (.l L) [.slice A n c]) (ht : ∀ x ∈ L, Has tyScript x) (hq : (Dat.l L).bulk ≤ 1099511627776) : Calls Tryz.prog 16 #[.slice A n c] w (GivesBool v w) := by subst hv; exact specSafes L A n c w h ht hq
theorem implKnownV (L : List Dat) (A : Option Addr) (n c : Nat) (v : Bool) (w : World) (hv : knownD L = v) (h : Lies w (.l L) [.slice A n c]) (ht : ∀ x ∈ L, Has tyScript x) (hq : (Dat.l L).bulk ≤ 1099511627776) : Calls Tryz.prog 18 #[.slice A n c] w (GivesBool v w) := by subst hv; exact implKnown L A n c w h ht hq
theorem specKnownV (L : List Dat) (A : Option Addr) (n c : Nat) (v : Bool) (w : World) (hv : knownD L = v) (h : Lies w (.l L) [.slice A n c]) (ht : ∀ x ∈ L, Has tyScript x) (hq : (Dat.l L).bulk ≤ 1099511627776) : Calls Tryz.prog 19 #[.slice A n c] w (GivesBool v w) := by subst hv; exact specKnown L A n c w h ht hq
/-- A list of so many texts comes back. -/
def GivesMany (d : Nat) (w : World) (e : Ending) (w' : World) : Prop := ∃ A c, e = .returned (.slice A d c) ∧ Below w.heap.size w w'
theorem FreshD.many {L : List Dat} {d : Nat} {w w' : World} {e : Ending} (h : FreshD L w e w') (hd : L.length = d) : GivesMany d w e w' := by
  obtain ⟨A, n, c, he, hO, hb⟩ := h
  obtain rfl : n = d := by rw [← hO.lies.count]; exact hd
  exact ⟨A, c, he, hb⟩
theorem implMadeV8 (f0 : ByteArray) (M : List Dat) (A : Option Addr) (n c d : Nat) (w : World) (h : Lies w (.l M) [.slice A n c]) (ht : ∀ x ∈ M, Has tyMethod x) (hq : (Dat.r [.s f0, .l M]).bulk ≤ 1099511627776) (hD : (madeL M).length = d) :
    Calls Tryz.prog 12 #[.agg #[.string f0, .slice A n c]] w (GivesMany d w) := (implMade f0 M A n c w h ht hq).mono fun _ _ h => FreshD.many h (by rw [List.length_map]; exact hD)
theorem specMadeV8 (f0 : ByteArray) (M : List Dat) (A : Option Addr) (n c d : Nat) (w : World) (h : Lies w (.l M) [.slice A n c]) (ht : ∀ x ∈ M, Has tyMethod x) (hq : (Dat.r [.s f0, .l M]).bulk ≤ 1099511627776) (hD : (madeL M).length = d) :
    Calls Tryz.prog 17 #[.agg #[.string f0, .slice A n c]] w (GivesMany d w) := (specMade f0 M A n c w h ht hq).mono fun _ _ h => FreshD.many h (by rw [List.length_map]; exact hD)
theorem scrs_has8 {m : Nat} {L : List Dat} (h : ScrsOk m L) : ∀ x ∈ L, Has tyScript x := fun x hx => (h.2 x hx).1
set_option maxRecDepth 100000 in
set_option maxHeartbeats 16000000 in
theorem law_Safe (A : Option Addr) (n c : Nat) (W : World) (hC : Code W A n) : Calls Tryz.prog 3 #[.slice A n c] W (GivesBool true W) := by
  have HC := Lib.hid hC
  clear hC
  by_cases hn : n ≤ 1048576
  · go_enter Tryz.func3, Tryz.ntmps3
    go_wp2_with fail
    refine (big_no A n c _ hn).mono ?_
    rintro e w' ⟨rfl, rfl⟩
    go_wp2_with fail
    refine (drawFU A n c _ HC.out hn).mono ?_
    rintro e w1 ⟨nm, A1, n1, c1, L, rfl, hl, hnm, hP, hT, hb⟩
    have X := Lib.hid ((((St.start W).below hb).lie hl).push #[.string nm, .slice A1 n1 c1] 26)
    have hn1 : n1 ≤ 12 := by have h1 := hl.count; have := hP.1; omega
    have hcap := hl.cap
    have HT := Lib.hid (fun x hx => (hP.2 x hx).1)
    have HQ : Hid ((Dat.r [.s nm, .l L]).bulk ≤ 200) := Lib.hid (meth_d hnm (hP.more (by omega))).2
    have HLen := Lib.hid hl.count
    have HSF := Lib.hid (fu_eq hT)
    clear hl hP hT hb
    obtain ⟨mv, hmv⟩ : ∃ v, isMeth (.r [.s nm, .l L]) = v := ⟨_, rfl⟩
    have HMV := Lib.hid hmv
    clear hmv
    rcases fu_kind (insL L) with hk | ⟨p, hk⟩
    · have HK := Lib.hid hk
      have HK' : Hid (specFU (insL L) = -1) := Lib.hid (by rw [HSF.out]; exact hk)
      clear hk HSF
      have hge : ¬ (n1 : Int) ≤ -1 := by omega
      obtain ⟨z0, z1⟩ := X.out.two (g := w1.heap.size) (x := .string nm) (y := .slice A1 n1 c1) (by repeat (first | exact List.mem_cons_self | refine List.mem_cons_of_mem _ ?_))
      go_wp2_with fail
      refine (implFUV nm L A1 n1 c1 (-1) _ (X.out.lies (d := .l L) (cs := [.slice A1 n1 c1]) (by repeat (first | exact List.mem_cons_self | refine List.mem_cons_of_mem _ ?_))) HT.out (by omega) HK.out).mono ?_
      rintro e w2 ⟨rfl, hb⟩
      replace X := Lib.hid (X.out.below hb)
      clear hb z0 z1
      obtain ⟨z0, z1⟩ := X.out.two (g := w1.heap.size) (x := .string nm) (y := .slice A1 n1 c1) (by repeat (first | exact List.mem_cons_self | refine List.mem_cons_of_mem _ ?_))
      go_wp2_with fail
      refine (specFUV nm L A1 n1 c1 (-1) _ (X.out.lies (d := .l L) (cs := [.slice A1 n1 c1]) (by repeat (first | exact List.mem_cons_self | refine List.mem_cons_of_mem _ ?_))) HT.out (by omega) HK'.out).mono ?_
      rintro e w3 ⟨rfl, hb⟩
      replace X := Lib.hid (X.out.below hb)
      clear hb z0 z1
      obtain ⟨z0, z1⟩ := X.out.two (g := w1.heap.size) (x := .string nm) (y := .slice A1 n1 c1) (by repeat (first | exact List.mem_cons_self | refine List.mem_cons_of_mem _ ?_))
      go_wp2_with fail
      refine (drawSafes A n c _ (HC.out.low6 X.out.low) hn).mono ?_
      rintro e w7 ⟨L5, A5, n5, c5, rfl, hl5, hP5, hb⟩
      replace X := Lib.hid ((X.out.below hb).lie hl5)
      have HT5 := Lib.hid (scrs_has8 hP5)
      have HQ5 := Lib.hid (hP5.bulk (by omega))
      clear hl5 hP5 hb
      try clear z0 z1
      go_wp2_with fail
      refine (drawMadeBy A n c _ (HC.out.low6 X.out.low) hn).mono ?_
      rintro e w8 ⟨f6, A6, n6, c6, M6, rfl, hO6, hf6, hP6, hb⟩
      replace X := Lib.hid (((X.out.below hb).lie hO6.lies).push #[.string f6, .slice A6 n6 c6] 37)
      have HT6 := Lib.hid (fun x hx => (hP6.2 x hx).1)
      have HQ6 : Hid ((Dat.r [.s f6, .l M6]).bulk ≤ 2000) := Lib.hid (scr_d hf6 hP6).2
      clear hO6 hf6 hP6 hb
      obtain ⟨dl, hdl⟩ : ∃ d, (madeL M6).length = d := ⟨_, rfl⟩
      have HDL := Lib.hid hdl
      clear hdl
      obtain ⟨z0, z1⟩ := X.out.two (g := w8.heap.size) (x := .string f6) (y := .slice A6 n6 c6) (by repeat (first | exact List.mem_cons_self | refine List.mem_cons_of_mem _ ?_))
      go_wp2_with fail
      refine (implMadeV8 f6 M6 A6 n6 c6 dl _ (X.out.lies (d := .l M6) (cs := [.slice A6 n6 c6]) (by repeat (first | exact List.mem_cons_self | refine List.mem_cons_of_mem _ ?_))) HT6.out (by have := HQ6.out; omega) HDL.out).mono ?_
      rintro e w9 ⟨A9, c9, rfl, hb⟩
      replace X := Lib.hid (X.out.below hb)
      clear hb z0 z1
      obtain ⟨u, hu⟩ : ∃ v, safesD L5 = v := ⟨_, rfl⟩
      obtain ⟨kn, hkn⟩ : ∃ v, knownD L5 = v := ⟨_, rfl⟩
      have HU := Lib.hid hu
      have HKN := Lib.hid hkn
      clear hu hkn
      rcases Bool.eq_false_or_eq_true mv with rfl | rfl
      · have HSV : Hid (safeD (.r [.s nm, .l L]) = true) := Lib.hid (by unfold safeD; rw [HMV.out]; show (_ && decide (implFU (insL L) = -1)) = _; rw [HK.out]; simp <;> omega)
        obtain ⟨z0, z1⟩ := X.out.two (g := w1.heap.size) (x := .string nm) (y := .slice A1 n1 c1) (by repeat (first | exact List.mem_cons_self | refine List.mem_cons_of_mem _ ?_))
        obtain ⟨z2, z3⟩ := X.out.two (g := w8.heap.size) (x := .string f6) (y := .slice A6 n6 c6) (by repeat (first | exact List.mem_cons_self | refine List.mem_cons_of_mem _ ?_))
        go_wp2_with fail
        replace X := Lib.hid X.out.drew
        go_region_held3 (fun w' => w'.cell? ⟨w1.heap.size, 0, none⟩ = some (.string nm) ∧ w'.cell? ⟨w1.heap.size, 1, none⟩ = some (.slice A1 n1 c1) ∧ w'.cell? ⟨w8.heap.size, 0, none⟩ = some (.string f6) ∧ w'.cell? ⟨w8.heap.size, 1, none⟩ = some (.slice A6 n6 c6))
          (first | with_reducible exact ⟨(X.out.two (g := w1.heap.size) (x := .string nm) (y := .slice A1 n1 c1) (by repeat (first | exact List.mem_cons_self | refine List.mem_cons_of_mem _ ?_))).1, (X.out.two (g := w1.heap.size) (x := .string nm) (y := .slice A1 n1 c1) (by repeat (first | exact List.mem_cons_self | refine List.mem_cons_of_mem _ ?_))).2, (X.out.two (g := w8.heap.size) (x := .string f6) (y := .slice A6 n6 c6) (by repeat (first | exact List.mem_cons_self | refine List.mem_cons_of_mem _ ?_))).1, (X.out.two (g := w8.heap.size) (x := .string f6) (y := .slice A6 n6 c6) (by repeat (first | exact List.mem_cons_self | refine List.mem_cons_of_mem _ ?_))).2⟩ | go_keep)
          (first
          | (go_at_call 13; (with_reducible refine (implSafeV nm L A1 n1 c1 true _ HSV.out (X.out.lies (d := .l L) (cs := [.slice A1 n1 c1]) (by repeat (first | exact List.mem_cons_self | refine List.mem_cons_of_mem _ ?_))) HT.out (by have := HQ.out; omega)).mono ?_); rintro e v0 ⟨rfl, hb5⟩; replace X := Lib.hid (X.out.below hb5); clear hb5)
          | (go_at_call 14; (with_reducible refine (implMethV nm L A1 n1 c1 true _ HMV.out (X.out.lies (d := .l L) (cs := [.slice A1 n1 c1]) (by repeat (first | exact List.mem_cons_self | refine List.mem_cons_of_mem _ ?_))) HT.out (by omega)).mono ?_); rintro e v0 ⟨rfl, hb5⟩; replace X := Lib.hid (X.out.below hb5); clear hb5)
          | (go_at_call 15; (with_reducible refine (implSafesV L5 A5 n5 c5 u _ HU.out (X.out.lies (d := .l L5) (cs := [.slice A5 n5 c5]) (by repeat (first | exact List.mem_cons_self | refine List.mem_cons_of_mem _ ?_))) HT5.out (by have := HQ5.out; omega)).mono ?_); rintro e v0 ⟨rfl, hb5⟩; replace X := Lib.hid (X.out.below hb5); clear hb5)
          | (go_at_call 16; (with_reducible refine (specSafesV L5 A5 n5 c5 u _ HU.out (X.out.lies (d := .l L5) (cs := [.slice A5 n5 c5]) (by repeat (first | exact List.mem_cons_self | refine List.mem_cons_of_mem _ ?_))) HT5.out (by have := HQ5.out; omega)).mono ?_); rintro e v0 ⟨rfl, hb5⟩; replace X := Lib.hid (X.out.below hb5); clear hb5)
          | (go_at_call 17; (with_reducible refine (specMadeV8 f6 M6 A6 n6 c6 dl _ (X.out.lies (d := .l M6) (cs := [.slice A6 n6 c6]) (by repeat (first | exact List.mem_cons_self | refine List.mem_cons_of_mem _ ?_))) HT6.out (by have := HQ6.out; omega) HDL.out).mono ?_); rintro e v0 ⟨A10, c10, rfl, hb5⟩; replace X := Lib.hid (X.out.below hb5); clear hb5)
          | (go_at_call 18; (with_reducible refine (implKnownV L5 A5 n5 c5 kn _ HKN.out (X.out.lies (d := .l L5) (cs := [.slice A5 n5 c5]) (by repeat (first | exact List.mem_cons_self | refine List.mem_cons_of_mem _ ?_))) HT5.out (by have := HQ5.out; omega)).mono ?_); rintro e v0 ⟨rfl, hb5⟩; replace X := Lib.hid (X.out.below hb5); clear hb5)
          | (go_at_call 19; (with_reducible refine (specKnownV L5 A5 n5 c5 kn _ HKN.out (X.out.lies (d := .l L5) (cs := [.slice A5 n5 c5]) (by repeat (first | exact List.mem_cons_self | refine List.mem_cons_of_mem _ ?_))) HT5.out (by have := HQ5.out; omega)).mono ?_); rintro e v0 ⟨rfl, hb5⟩; replace X := Lib.hid (X.out.below hb5); clear hb5))
        all_goals (
          try clear z0 z1
          try clear z2 z3
          go_wp2_with fail
          go_ret
          exact GivesBool.ret X.out.low)
      · have HSV : Hid (safeD (.r [.s nm, .l L]) = false) := Lib.hid (by unfold safeD; rw [HMV.out]; show (_ && decide (implFU (insL L) = -1)) = _; rw [HK.out]; simp <;> omega)
        obtain ⟨z0, z1⟩ := X.out.two (g := w1.heap.size) (x := .string nm) (y := .slice A1 n1 c1) (by repeat (first | exact List.mem_cons_self | refine List.mem_cons_of_mem _ ?_))
        obtain ⟨z2, z3⟩ := X.out.two (g := w8.heap.size) (x := .string f6) (y := .slice A6 n6 c6) (by repeat (first | exact List.mem_cons_self | refine List.mem_cons_of_mem _ ?_))
        go_wp2_with fail
        replace X := Lib.hid X.out.drew
        obtain ⟨z4, z5⟩ := (X.out.two (g := w1.heap.size) (x := .string nm) (y := .slice A1 n1 c1) (by repeat (first | exact List.mem_cons_self | refine List.mem_cons_of_mem _ ?_)))
        obtain ⟨z6, z7⟩ := (X.out.two (g := w8.heap.size) (x := .string f6) (y := .slice A6 n6 c6) (by repeat (first | exact List.mem_cons_self | refine List.mem_cons_of_mem _ ?_)))
        first
        | (go_region_law (first
            | (go_simp; go_at_call 13; (with_reducible refine (implSafeV nm L A1 n1 c1 false _ HSV.out (X.out.lies (d := .l L) (cs := [.slice A1 n1 c1]) (by repeat (first | exact List.mem_cons_self | refine List.mem_cons_of_mem _ ?_))) HT.out (by have := HQ.out; omega)).mono ?_); rintro e v0 ⟨rfl, hb5⟩; replace X := Lib.hid (X.out.below hb5); clear hb5; (obtain ⟨z0, z1⟩ := (X.out.two (g := w1.heap.size) (x := .string nm) (y := .slice A1 n1 c1) (by repeat (first | exact List.mem_cons_self | refine List.mem_cons_of_mem _ ?_)))); (obtain ⟨z2, z3⟩ := (X.out.two (g := w8.heap.size) (x := .string f6) (y := .slice A6 n6 c6) (by repeat (first | exact List.mem_cons_self | refine List.mem_cons_of_mem _ ?_)))))
            | (go_simp; go_at_call 14; (with_reducible refine (implMethV nm L A1 n1 c1 false _ HMV.out (X.out.lies (d := .l L) (cs := [.slice A1 n1 c1]) (by repeat (first | exact List.mem_cons_self | refine List.mem_cons_of_mem _ ?_))) HT.out (by omega)).mono ?_); rintro e v0 ⟨rfl, hb5⟩; replace X := Lib.hid (X.out.below hb5); clear hb5; (obtain ⟨z0, z1⟩ := (X.out.two (g := w1.heap.size) (x := .string nm) (y := .slice A1 n1 c1) (by repeat (first | exact List.mem_cons_self | refine List.mem_cons_of_mem _ ?_)))); (obtain ⟨z2, z3⟩ := (X.out.two (g := w8.heap.size) (x := .string f6) (y := .slice A6 n6 c6) (by repeat (first | exact List.mem_cons_self | refine List.mem_cons_of_mem _ ?_)))))
            | (go_simp; go_at_call 15; (with_reducible refine (implSafesV L5 A5 n5 c5 u _ HU.out (X.out.lies (d := .l L5) (cs := [.slice A5 n5 c5]) (by repeat (first | exact List.mem_cons_self | refine List.mem_cons_of_mem _ ?_))) HT5.out (by have := HQ5.out; omega)).mono ?_); rintro e v0 ⟨rfl, hb5⟩; replace X := Lib.hid (X.out.below hb5); clear hb5; (obtain ⟨z0, z1⟩ := (X.out.two (g := w1.heap.size) (x := .string nm) (y := .slice A1 n1 c1) (by repeat (first | exact List.mem_cons_self | refine List.mem_cons_of_mem _ ?_)))); (obtain ⟨z2, z3⟩ := (X.out.two (g := w8.heap.size) (x := .string f6) (y := .slice A6 n6 c6) (by repeat (first | exact List.mem_cons_self | refine List.mem_cons_of_mem _ ?_)))))
            | (go_simp; go_at_call 16; (with_reducible refine (specSafesV L5 A5 n5 c5 u _ HU.out (X.out.lies (d := .l L5) (cs := [.slice A5 n5 c5]) (by repeat (first | exact List.mem_cons_self | refine List.mem_cons_of_mem _ ?_))) HT5.out (by have := HQ5.out; omega)).mono ?_); rintro e v0 ⟨rfl, hb5⟩; replace X := Lib.hid (X.out.below hb5); clear hb5; (obtain ⟨z0, z1⟩ := (X.out.two (g := w1.heap.size) (x := .string nm) (y := .slice A1 n1 c1) (by repeat (first | exact List.mem_cons_self | refine List.mem_cons_of_mem _ ?_)))); (obtain ⟨z2, z3⟩ := (X.out.two (g := w8.heap.size) (x := .string f6) (y := .slice A6 n6 c6) (by repeat (first | exact List.mem_cons_self | refine List.mem_cons_of_mem _ ?_)))))
            | (go_simp; go_at_call 17; (with_reducible refine (specMadeV8 f6 M6 A6 n6 c6 dl _ (X.out.lies (d := .l M6) (cs := [.slice A6 n6 c6]) (by repeat (first | exact List.mem_cons_self | refine List.mem_cons_of_mem _ ?_))) HT6.out (by have := HQ6.out; omega) HDL.out).mono ?_); rintro e v0 ⟨A10, c10, rfl, hb5⟩; replace X := Lib.hid (X.out.below hb5); clear hb5; (obtain ⟨z0, z1⟩ := (X.out.two (g := w1.heap.size) (x := .string nm) (y := .slice A1 n1 c1) (by repeat (first | exact List.mem_cons_self | refine List.mem_cons_of_mem _ ?_)))); (obtain ⟨z2, z3⟩ := (X.out.two (g := w8.heap.size) (x := .string f6) (y := .slice A6 n6 c6) (by repeat (first | exact List.mem_cons_self | refine List.mem_cons_of_mem _ ?_)))))
            | (go_simp; go_at_call 18; (with_reducible refine (implKnownV L5 A5 n5 c5 kn _ HKN.out (X.out.lies (d := .l L5) (cs := [.slice A5 n5 c5]) (by repeat (first | exact List.mem_cons_self | refine List.mem_cons_of_mem _ ?_))) HT5.out (by have := HQ5.out; omega)).mono ?_); rintro e v0 ⟨rfl, hb5⟩; replace X := Lib.hid (X.out.below hb5); clear hb5; (obtain ⟨z0, z1⟩ := (X.out.two (g := w1.heap.size) (x := .string nm) (y := .slice A1 n1 c1) (by repeat (first | exact List.mem_cons_self | refine List.mem_cons_of_mem _ ?_)))); (obtain ⟨z2, z3⟩ := (X.out.two (g := w8.heap.size) (x := .string f6) (y := .slice A6 n6 c6) (by repeat (first | exact List.mem_cons_self | refine List.mem_cons_of_mem _ ?_)))))
            | (go_simp; go_at_call 19; (with_reducible refine (specKnownV L5 A5 n5 c5 kn _ HKN.out (X.out.lies (d := .l L5) (cs := [.slice A5 n5 c5]) (by repeat (first | exact List.mem_cons_self | refine List.mem_cons_of_mem _ ?_))) HT5.out (by have := HQ5.out; omega)).mono ?_); rintro e v0 ⟨rfl, hb5⟩; replace X := Lib.hid (X.out.below hb5); clear hb5; (obtain ⟨z0, z1⟩ := (X.out.two (g := w1.heap.size) (x := .string nm) (y := .slice A1 n1 c1) (by repeat (first | exact List.mem_cons_self | refine List.mem_cons_of_mem _ ?_)))); (obtain ⟨z2, z3⟩ := (X.out.two (g := w8.heap.size) (x := .string f6) (y := .slice A6 n6 c6) (by repeat (first | exact List.mem_cons_self | refine List.mem_cons_of_mem _ ?_)))))))
        | fail
        all_goals (
          go_wp2_with fail
          go_ret
          exact GivesBool.ret X.out.low)
    · have HK := Lib.hid hk
      have HK' : Hid (specFU (insL L) = (p : Int)) := Lib.hid (by rw [HSF.out]; exact hk)
      have hcut := fu_cut hk
      clear hk HSF
      rw [insL_len, HLen.out] at hcut
      obtain ⟨hpn, hcut1, x, hx, hxr⟩ := hcut
      have HCUT : Hid (implFU (insL (L.take p)) = -1) := Lib.hid (by rw [insL_take]; exact hcut1)
      have HX := Lib.hid hx
      clear hcut1 hx
      obtain ⟨b, off, d, xs, rfl, hbw, hzi, hlie, hlen, hcell⟩ := (X.out.lies (d := .l L) (cs := [.slice A1 n1 c1]) (by repeat (first | exact List.mem_cons_self | refine List.mem_cons_of_mem _ ?_))).elem (i := p) (fun x hx => (HT.out x hx).width) hpn
      have HE : Hid (insOf d = x) := Lib.hid (by have h1 := insL_at hzi; rw [HX.out] at h1; exact (Option.some.inj h1).symm)
      have HZI := Lib.hid hzi
      have HHD := Lib.hid (HT.out d (List.mem_of_getElem? hzi))
      clear hlie hcell hzi hbw hlen
      have hge : ¬ (n1 : Int) ≤ (p : Int) := by omega
      have hq2 : (0 : Int) ≤ p := by omega
      have hq3 : (p : Int) ≤ c1 := by omega
      have hq4 : (p : Int) < n1 := by omega
      have hc1 : ¬ c1 = 0 := by omega
      have hc2 : 0 < c1 := by omega
      obtain ⟨z0, z1⟩ := X.out.two (g := w1.heap.size) (x := .string nm) (y := .slice (some ⟨b, off, none⟩) n1 c1) (by repeat (first | exact List.mem_cons_self | refine List.mem_cons_of_mem _ ?_))
      go_wp2_with fail
      refine (implFUV nm L (some ⟨b, off, none⟩) n1 c1 p _ (X.out.lies (d := .l L) (cs := [.slice (some ⟨b, off, none⟩) n1 c1]) (by repeat (first | exact List.mem_cons_self | refine List.mem_cons_of_mem _ ?_))) HT.out (by omega) HK.out).mono ?_
      rintro e w2 ⟨rfl, hb⟩
      replace X := Lib.hid (X.out.below hb)
      clear hb z0 z1
      obtain ⟨z0, z1⟩ := X.out.two (g := w1.heap.size) (x := .string nm) (y := .slice (some ⟨b, off, none⟩) n1 c1) (by repeat (first | exact List.mem_cons_self | refine List.mem_cons_of_mem _ ?_))
      go_wp2_with fail
      refine (specFUV nm L (some ⟨b, off, none⟩) n1 c1 p _ (X.out.lies (d := .l L) (cs := [.slice (some ⟨b, off, none⟩) n1 c1]) (by repeat (first | exact List.mem_cons_self | refine List.mem_cons_of_mem _ ?_))) HT.out (by omega) HK'.out).mono ?_
      rintro e w3 ⟨rfl, hb⟩
      replace X := Lib.hid (X.out.below hb)
      clear hb z0 z1
      obtain ⟨z0, z1⟩ := X.out.two (g := w1.heap.size) (x := .string nm) (y := .slice (some ⟨b, off, none⟩) n1 c1) (by repeat (first | exact List.mem_cons_self | refine List.mem_cons_of_mem _ ?_))
      go_wp2_with fail
      replace X := Lib.hid X.out.drew
      go_region_held3 (fun w' => w'.cell? ⟨w1.heap.size, 0, none⟩ = some (.string nm) ∧ w'.cell? ⟨w1.heap.size, 1, none⟩ = some (.slice (some ⟨b, off, none⟩) n1 c1))
        (first | with_reducible exact (X.out.two (g := w1.heap.size) (x := .string nm) (y := .slice (some ⟨b, off, none⟩) n1 c1) (by repeat (first | exact List.mem_cons_self | refine List.mem_cons_of_mem _ ?_))) | exact ⟨z0, z1⟩ | go_keep)
        (first | fail)
      replace X := Lib.hid ((X.out.lie ((X.out.lies (d := .l L) (cs := [.slice (some ⟨b, off, none⟩) n1 c1]) (by repeat (first | exact List.mem_cons_self | refine List.mem_cons_of_mem _ ?_))).cut (p := p) (by omega))).push #[.string nm, .slice (some ⟨b, off, none⟩) p c1] 26)
      clear z0 z1
      obtain ⟨z0, z1⟩ := X.out.two (g := w3.heap.size) (x := .string nm) (y := .slice (some ⟨b, off, none⟩) p c1) (by repeat (first | exact List.mem_cons_self | refine List.mem_cons_of_mem _ ?_))
      go_wp2_with fail
      refine (implFUV nm (L.take p) (some ⟨b, off, none⟩) p c1 (-1) _ (X.out.lies (d := .l (L.take p)) (cs := [.slice (some ⟨b, off, none⟩) p c1]) (by repeat (first | exact List.mem_cons_self | refine List.mem_cons_of_mem _ ?_))) (fun x hx => HT.out x (List.mem_of_mem_take hx)) (by omega) HCUT.out).mono ?_
      rintro e w4 ⟨rfl, hb⟩
      replace X := Lib.hid (X.out.below hb)
      clear hb z0 z1
      obtain ⟨z0, z1⟩ := X.out.two (g := w1.heap.size) (x := .string nm) (y := .slice (some ⟨b, off, none⟩) n1 c1) (by repeat (first | exact List.mem_cons_self | refine List.mem_cons_of_mem _ ?_))
      obtain ⟨b', off', d', xs, eA, hbw, hzi, hlie, hlen, hcell⟩ := (X.out.lies (d := .l L) (cs := [.slice (some ⟨b, off, none⟩) n1 c1]) (by repeat (first | exact List.mem_cons_self | refine List.mem_cons_of_mem _ ?_))).elem (i := p) (fun x hx => (HT.out x hx).width) hpn
      obtain ⟨rfl, rfl⟩ : b = b' ∧ off = off' := by simpa using eA
      obtain rfl : d = d' := by have h1 := HZI.out; rw [hzi] at h1; exact (Option.some.inj h1).symm
      obtain ⟨f0, f1, f2, f3, f4, f5, hd, rfl, hf5⟩ := invInstr HHD.out hlie
      have r0 : w4.cell? ⟨b, off + p * 6, none⟩ = some (.int .i64 f0) := hcell 0 _ rfl
      have r1 : w4.cell? ⟨b, off + p * 6 + 1, none⟩ = some (.int .i64 f1) := hcell 1 _ rfl
      have r2 : w4.cell? ⟨b, off + p * 6 + 2, none⟩ = some (.int .i64 f2) := hcell 2 _ rfl
      have r3 : w4.cell? ⟨b, off + p * 6 + 3, none⟩ = some (.int .i64 f3) := hcell 3 _ rfl
      have r4 : w4.cell? ⟨b, off + p * 6 + 4, none⟩ = some (.int .i64 f4) := hcell 4 _ rfl
      have r5 : w4.cell? ⟨b, off + p * 6 + 5, none⟩ = some (.string f5) := hcell 5 _ rfl
      have HD := Lib.hid hd
      clear hd hlie hcell hzi hbw hlen eA
      go_wp2_with fail
      refine (implRegsD d f0 f1 f2 f3 f4 f5 _ HD.out).mono ?_
      rintro e w5 ⟨A5', n5', c5', rfl, hO5, hb⟩
      have hne5 : ¬ n5' = 0 := by rw [← hO5.1, HE.out]; exact hxr
      have hne6 : ((n5' : Int) == 0) = false := by simp; exact hne5
      replace X := Lib.hid (X.out.below hb)
      clear hO5 hb z0 z1 r0 r1 r2 r3 r4 r5
      go_wp2_with fail
      refine (drawSafes A n c _ (HC.out.low6 X.out.low) hn).mono ?_
      rintro e w7 ⟨L5, A5, n5, c5, rfl, hl5, hP5, hb⟩
      replace X := Lib.hid ((X.out.below hb).lie hl5)
      have HT5 := Lib.hid (scrs_has8 hP5)
      have HQ5 := Lib.hid (hP5.bulk (by omega))
      clear hl5 hP5 hb
      try clear z0 z1
      go_wp2_with fail
      refine (drawMadeBy A n c _ (HC.out.low6 X.out.low) hn).mono ?_
      rintro e w8 ⟨f6, A6, n6, c6, M6, rfl, hO6, hf6, hP6, hb⟩
      replace X := Lib.hid (((X.out.below hb).lie hO6.lies).push #[.string f6, .slice A6 n6 c6] 37)
      have HT6 := Lib.hid (fun x hx => (hP6.2 x hx).1)
      have HQ6 : Hid ((Dat.r [.s f6, .l M6]).bulk ≤ 2000) := Lib.hid (scr_d hf6 hP6).2
      clear hO6 hf6 hP6 hb
      obtain ⟨dl, hdl⟩ : ∃ d, (madeL M6).length = d := ⟨_, rfl⟩
      have HDL := Lib.hid hdl
      clear hdl
      obtain ⟨z0, z1⟩ := X.out.two (g := w8.heap.size) (x := .string f6) (y := .slice A6 n6 c6) (by repeat (first | exact List.mem_cons_self | refine List.mem_cons_of_mem _ ?_))
      go_wp2_with fail
      refine (implMadeV8 f6 M6 A6 n6 c6 dl _ (X.out.lies (d := .l M6) (cs := [.slice A6 n6 c6]) (by repeat (first | exact List.mem_cons_self | refine List.mem_cons_of_mem _ ?_))) HT6.out (by have := HQ6.out; omega) HDL.out).mono ?_
      rintro e w9 ⟨A9, c9, rfl, hb⟩
      replace X := Lib.hid (X.out.below hb)
      clear hb z0 z1
      obtain ⟨u, hu⟩ : ∃ v, safesD L5 = v := ⟨_, rfl⟩
      obtain ⟨kn, hkn⟩ : ∃ v, knownD L5 = v := ⟨_, rfl⟩
      have HU := Lib.hid hu
      have HKN := Lib.hid hkn
      clear hu hkn
      rcases Bool.eq_false_or_eq_true mv with rfl | rfl
      · have HSV : Hid (safeD (.r [.s nm, .l L]) = false) := Lib.hid (by unfold safeD; rw [HMV.out]; show (_ && decide (implFU (insL L) = -1)) = _; rw [HK.out]; simp <;> omega)
        obtain ⟨z0, z1⟩ := X.out.two (g := w1.heap.size) (x := .string nm) (y := .slice (some ⟨b, off, none⟩) n1 c1) (by repeat (first | exact List.mem_cons_self | refine List.mem_cons_of_mem _ ?_))
        obtain ⟨z2, z3⟩ := X.out.two (g := w8.heap.size) (x := .string f6) (y := .slice A6 n6 c6) (by repeat (first | exact List.mem_cons_self | refine List.mem_cons_of_mem _ ?_))
        go_wp2_with fail
        replace X := Lib.hid X.out.drew
        go_region_held3 (fun w' => w'.cell? ⟨w1.heap.size, 0, none⟩ = some (.string nm) ∧ w'.cell? ⟨w1.heap.size, 1, none⟩ = some (.slice (some ⟨b, off, none⟩) n1 c1) ∧ w'.cell? ⟨w8.heap.size, 0, none⟩ = some (.string f6) ∧ w'.cell? ⟨w8.heap.size, 1, none⟩ = some (.slice A6 n6 c6))
          (first | with_reducible exact ⟨(X.out.two (g := w1.heap.size) (x := .string nm) (y := .slice (some ⟨b, off, none⟩) n1 c1) (by repeat (first | exact List.mem_cons_self | refine List.mem_cons_of_mem _ ?_))).1, (X.out.two (g := w1.heap.size) (x := .string nm) (y := .slice (some ⟨b, off, none⟩) n1 c1) (by repeat (first | exact List.mem_cons_self | refine List.mem_cons_of_mem _ ?_))).2, (X.out.two (g := w8.heap.size) (x := .string f6) (y := .slice A6 n6 c6) (by repeat (first | exact List.mem_cons_self | refine List.mem_cons_of_mem _ ?_))).1, (X.out.two (g := w8.heap.size) (x := .string f6) (y := .slice A6 n6 c6) (by repeat (first | exact List.mem_cons_self | refine List.mem_cons_of_mem _ ?_))).2⟩ | go_keep)
          (first
          | (go_at_call 13; (with_reducible refine (implSafeV nm L (some ⟨b, off, none⟩) n1 c1 false _ HSV.out (X.out.lies (d := .l L) (cs := [.slice (some ⟨b, off, none⟩) n1 c1]) (by repeat (first | exact List.mem_cons_self | refine List.mem_cons_of_mem _ ?_))) HT.out (by have := HQ.out; omega)).mono ?_); rintro e v0 ⟨rfl, hb5⟩; replace X := Lib.hid (X.out.below hb5); clear hb5)
          | (go_at_call 14; (with_reducible refine (implMethV nm L (some ⟨b, off, none⟩) n1 c1 true _ HMV.out (X.out.lies (d := .l L) (cs := [.slice (some ⟨b, off, none⟩) n1 c1]) (by repeat (first | exact List.mem_cons_self | refine List.mem_cons_of_mem _ ?_))) HT.out (by omega)).mono ?_); rintro e v0 ⟨rfl, hb5⟩; replace X := Lib.hid (X.out.below hb5); clear hb5)
          | (go_at_call 15; (with_reducible refine (implSafesV L5 A5 n5 c5 u _ HU.out (X.out.lies (d := .l L5) (cs := [.slice A5 n5 c5]) (by repeat (first | exact List.mem_cons_self | refine List.mem_cons_of_mem _ ?_))) HT5.out (by have := HQ5.out; omega)).mono ?_); rintro e v0 ⟨rfl, hb5⟩; replace X := Lib.hid (X.out.below hb5); clear hb5)
          | (go_at_call 16; (with_reducible refine (specSafesV L5 A5 n5 c5 u _ HU.out (X.out.lies (d := .l L5) (cs := [.slice A5 n5 c5]) (by repeat (first | exact List.mem_cons_self | refine List.mem_cons_of_mem _ ?_))) HT5.out (by have := HQ5.out; omega)).mono ?_); rintro e v0 ⟨rfl, hb5⟩; replace X := Lib.hid (X.out.below hb5); clear hb5)
          | (go_at_call 17; (with_reducible refine (specMadeV8 f6 M6 A6 n6 c6 dl _ (X.out.lies (d := .l M6) (cs := [.slice A6 n6 c6]) (by repeat (first | exact List.mem_cons_self | refine List.mem_cons_of_mem _ ?_))) HT6.out (by have := HQ6.out; omega) HDL.out).mono ?_); rintro e v0 ⟨A10, c10, rfl, hb5⟩; replace X := Lib.hid (X.out.below hb5); clear hb5)
          | (go_at_call 18; (with_reducible refine (implKnownV L5 A5 n5 c5 kn _ HKN.out (X.out.lies (d := .l L5) (cs := [.slice A5 n5 c5]) (by repeat (first | exact List.mem_cons_self | refine List.mem_cons_of_mem _ ?_))) HT5.out (by have := HQ5.out; omega)).mono ?_); rintro e v0 ⟨rfl, hb5⟩; replace X := Lib.hid (X.out.below hb5); clear hb5)
          | (go_at_call 19; (with_reducible refine (specKnownV L5 A5 n5 c5 kn _ HKN.out (X.out.lies (d := .l L5) (cs := [.slice A5 n5 c5]) (by repeat (first | exact List.mem_cons_self | refine List.mem_cons_of_mem _ ?_))) HT5.out (by have := HQ5.out; omega)).mono ?_); rintro e v0 ⟨rfl, hb5⟩; replace X := Lib.hid (X.out.below hb5); clear hb5))
        all_goals (
          try clear z0 z1
          try clear z2 z3
          go_wp2_with fail
          go_ret
          exact GivesBool.ret X.out.low)
      · have HSV : Hid (safeD (.r [.s nm, .l L]) = false) := Lib.hid (by unfold safeD; rw [HMV.out]; show (_ && decide (implFU (insL L) = -1)) = _; rw [HK.out]; simp <;> omega)
        obtain ⟨z0, z1⟩ := X.out.two (g := w1.heap.size) (x := .string nm) (y := .slice (some ⟨b, off, none⟩) n1 c1) (by repeat (first | exact List.mem_cons_self | refine List.mem_cons_of_mem _ ?_))
        obtain ⟨z2, z3⟩ := X.out.two (g := w8.heap.size) (x := .string f6) (y := .slice A6 n6 c6) (by repeat (first | exact List.mem_cons_self | refine List.mem_cons_of_mem _ ?_))
        go_wp2_with fail
        replace X := Lib.hid X.out.drew
        obtain ⟨z4, z5⟩ := (X.out.two (g := w1.heap.size) (x := .string nm) (y := .slice (some ⟨b, off, none⟩) n1 c1) (by repeat (first | exact List.mem_cons_self | refine List.mem_cons_of_mem _ ?_)))
        obtain ⟨z6, z7⟩ := (X.out.two (g := w8.heap.size) (x := .string f6) (y := .slice A6 n6 c6) (by repeat (first | exact List.mem_cons_self | refine List.mem_cons_of_mem _ ?_)))
        first
        | (go_region_law (first
            | (go_simp; go_at_call 13; (with_reducible refine (implSafeV nm L (some ⟨b, off, none⟩) n1 c1 false _ HSV.out (X.out.lies (d := .l L) (cs := [.slice (some ⟨b, off, none⟩) n1 c1]) (by repeat (first | exact List.mem_cons_self | refine List.mem_cons_of_mem _ ?_))) HT.out (by have := HQ.out; omega)).mono ?_); rintro e v0 ⟨rfl, hb5⟩; replace X := Lib.hid (X.out.below hb5); clear hb5; (obtain ⟨z0, z1⟩ := (X.out.two (g := w1.heap.size) (x := .string nm) (y := .slice (some ⟨b, off, none⟩) n1 c1) (by repeat (first | exact List.mem_cons_self | refine List.mem_cons_of_mem _ ?_)))); (obtain ⟨z2, z3⟩ := (X.out.two (g := w8.heap.size) (x := .string f6) (y := .slice A6 n6 c6) (by repeat (first | exact List.mem_cons_self | refine List.mem_cons_of_mem _ ?_)))))
            | (go_simp; go_at_call 14; (with_reducible refine (implMethV nm L (some ⟨b, off, none⟩) n1 c1 false _ HMV.out (X.out.lies (d := .l L) (cs := [.slice (some ⟨b, off, none⟩) n1 c1]) (by repeat (first | exact List.mem_cons_self | refine List.mem_cons_of_mem _ ?_))) HT.out (by omega)).mono ?_); rintro e v0 ⟨rfl, hb5⟩; replace X := Lib.hid (X.out.below hb5); clear hb5; (obtain ⟨z0, z1⟩ := (X.out.two (g := w1.heap.size) (x := .string nm) (y := .slice (some ⟨b, off, none⟩) n1 c1) (by repeat (first | exact List.mem_cons_self | refine List.mem_cons_of_mem _ ?_)))); (obtain ⟨z2, z3⟩ := (X.out.two (g := w8.heap.size) (x := .string f6) (y := .slice A6 n6 c6) (by repeat (first | exact List.mem_cons_self | refine List.mem_cons_of_mem _ ?_)))))
            | (go_simp; go_at_call 15; (with_reducible refine (implSafesV L5 A5 n5 c5 u _ HU.out (X.out.lies (d := .l L5) (cs := [.slice A5 n5 c5]) (by repeat (first | exact List.mem_cons_self | refine List.mem_cons_of_mem _ ?_))) HT5.out (by have := HQ5.out; omega)).mono ?_); rintro e v0 ⟨rfl, hb5⟩; replace X := Lib.hid (X.out.below hb5); clear hb5; (obtain ⟨z0, z1⟩ := (X.out.two (g := w1.heap.size) (x := .string nm) (y := .slice (some ⟨b, off, none⟩) n1 c1) (by repeat (first | exact List.mem_cons_self | refine List.mem_cons_of_mem _ ?_)))); (obtain ⟨z2, z3⟩ := (X.out.two (g := w8.heap.size) (x := .string f6) (y := .slice A6 n6 c6) (by repeat (first | exact List.mem_cons_self | refine List.mem_cons_of_mem _ ?_)))))
            | (go_simp; go_at_call 16; (with_reducible refine (specSafesV L5 A5 n5 c5 u _ HU.out (X.out.lies (d := .l L5) (cs := [.slice A5 n5 c5]) (by repeat (first | exact List.mem_cons_self | refine List.mem_cons_of_mem _ ?_))) HT5.out (by have := HQ5.out; omega)).mono ?_); rintro e v0 ⟨rfl, hb5⟩; replace X := Lib.hid (X.out.below hb5); clear hb5; (obtain ⟨z0, z1⟩ := (X.out.two (g := w1.heap.size) (x := .string nm) (y := .slice (some ⟨b, off, none⟩) n1 c1) (by repeat (first | exact List.mem_cons_self | refine List.mem_cons_of_mem _ ?_)))); (obtain ⟨z2, z3⟩ := (X.out.two (g := w8.heap.size) (x := .string f6) (y := .slice A6 n6 c6) (by repeat (first | exact List.mem_cons_self | refine List.mem_cons_of_mem _ ?_)))))
            | (go_simp; go_at_call 17; (with_reducible refine (specMadeV8 f6 M6 A6 n6 c6 dl _ (X.out.lies (d := .l M6) (cs := [.slice A6 n6 c6]) (by repeat (first | exact List.mem_cons_self | refine List.mem_cons_of_mem _ ?_))) HT6.out (by have := HQ6.out; omega) HDL.out).mono ?_); rintro e v0 ⟨A10, c10, rfl, hb5⟩; replace X := Lib.hid (X.out.below hb5); clear hb5; (obtain ⟨z0, z1⟩ := (X.out.two (g := w1.heap.size) (x := .string nm) (y := .slice (some ⟨b, off, none⟩) n1 c1) (by repeat (first | exact List.mem_cons_self | refine List.mem_cons_of_mem _ ?_)))); (obtain ⟨z2, z3⟩ := (X.out.two (g := w8.heap.size) (x := .string f6) (y := .slice A6 n6 c6) (by repeat (first | exact List.mem_cons_self | refine List.mem_cons_of_mem _ ?_)))))
            | (go_simp; go_at_call 18; (with_reducible refine (implKnownV L5 A5 n5 c5 kn _ HKN.out (X.out.lies (d := .l L5) (cs := [.slice A5 n5 c5]) (by repeat (first | exact List.mem_cons_self | refine List.mem_cons_of_mem _ ?_))) HT5.out (by have := HQ5.out; omega)).mono ?_); rintro e v0 ⟨rfl, hb5⟩; replace X := Lib.hid (X.out.below hb5); clear hb5; (obtain ⟨z0, z1⟩ := (X.out.two (g := w1.heap.size) (x := .string nm) (y := .slice (some ⟨b, off, none⟩) n1 c1) (by repeat (first | exact List.mem_cons_self | refine List.mem_cons_of_mem _ ?_)))); (obtain ⟨z2, z3⟩ := (X.out.two (g := w8.heap.size) (x := .string f6) (y := .slice A6 n6 c6) (by repeat (first | exact List.mem_cons_self | refine List.mem_cons_of_mem _ ?_)))))
            | (go_simp; go_at_call 19; (with_reducible refine (specKnownV L5 A5 n5 c5 kn _ HKN.out (X.out.lies (d := .l L5) (cs := [.slice A5 n5 c5]) (by repeat (first | exact List.mem_cons_self | refine List.mem_cons_of_mem _ ?_))) HT5.out (by have := HQ5.out; omega)).mono ?_); rintro e v0 ⟨rfl, hb5⟩; replace X := Lib.hid (X.out.below hb5); clear hb5; (obtain ⟨z0, z1⟩ := (X.out.two (g := w1.heap.size) (x := .string nm) (y := .slice (some ⟨b, off, none⟩) n1 c1) (by repeat (first | exact List.mem_cons_self | refine List.mem_cons_of_mem _ ?_)))); (obtain ⟨z2, z3⟩ := (X.out.two (g := w8.heap.size) (x := .string f6) (y := .slice A6 n6 c6) (by repeat (first | exact List.mem_cons_self | refine List.mem_cons_of_mem _ ?_)))))))
        | fail
        all_goals (
          go_wp2_with fail
          go_ret
          exact GivesBool.ret X.out.low)
  · go_enter Tryz.func3, Tryz.ntmps3
    go_wp2_with fail
    refine (big_yes A n c _ hn).mono ?_
    rintro e w' ⟨rfl, rfl⟩
    go_wp2_with fail
    go_ret
    exact GivesBool.ret (Below.refl _ _)
end Go.Proofs.YtgibhbplgiejpaaGreat
