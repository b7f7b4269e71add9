/- ReadBytes and DecodeInts, the program's and the reference's. -/
import Derived.Test.YtchofnligbgigaaDec
import Derived.Test.YtchofnligbgigaaBase
namespace Go.Proofs.Ytchofnligbgigaa
open Go.RowKit

/-- A new slice that owns zs comes back, a number and a bool. -/
def FreshT (k : IntKind) (E : TypeId) (zs : List Int) (x : Int) (b : Bool) (w : World) (e : Ending) (w' : World) : Prop :=
  ∃ A n c, e = .returned (.tuple #[.slice A n c, .int .i64 x, .bool b]) ∧ Own k E w.heap.size w'.heap.size w' A n c zs ∧ Below w.heap.size w w'
theorem FreshT.ret {k : IntKind} {E : TypeId} {zs ys : List Int} {x y : Int} {b : Bool} {w w' : World} {A : Option Addr} {n c hi : Nat} (h : Own k E w.heap.size hi w' A n c ys) (hy : ys = zs) (hx : x = y) (hb : Below w.heap.size w w') :
    FreshT k E zs y b w (.returned (.tuple #[.slice A n c, .int .i64 x, .bool b])) w' := by
  subst hy hx
  have hs := h.2.2.1
  exact ⟨A, n, c, rfl, h.more hs (Nat.le_refl _), hb⟩
theorem Rz.cut {k : IntKind} {w : World} {A : Option Addr} {n : Nat} {zs : List Int} (h : Rz k w A n zs) {l v : Nat} (h1 : l + v ≤ n) : Rz k w (A.map (·.add l)) v ((zs.drop l).take v) := by
  have hl := h.1
  refine ⟨by rw [List.length_take, List.length_drop]; omega, ?_⟩
  by_cases hz : v = 0
  · left
    subst hz
    simp
  · right
    rcases h.2 with hn | ⟨b, off, rfl, hb, hc⟩
    · have : zs = [] := by simpa using hn
      subst this
      simp at hl
      omega
    · refine ⟨b, off + l, ?_, hb, fun j v' hj => ?_⟩
      · simp [Addr.add_lit]
      · rw [Nat.add_assoc]
        apply hc
        rw [List.getElem?_map] at hj ⊢
        rw [List.getElem?_take] at hj
        split at hj
        · rw [List.getElem?_drop] at hj; exact hj
        · simp at hj
theorem Rz.cut' {k : IntKind} {w : World} {A : Option Addr} {n : Nat} {zs : List Int} (h : Rz k w A n zs) {l v r : Nat} (h1 : l + v ≤ n) (hr : r = v) : Rz k w (A.map (·.add l)) r ((zs.drop l).take v) := by
  subst hr
  exact h.cut h1
/-- What ReadBytes gives. -/
def readB (zs : List Int) (off mx : Int) : Option (List Int × Int) :=
  match readU zs off with
  | none => none
  | some (v, k) => if mx < v ∨ (zs.length : Int) - (off + k) < v then none else some ((zs.drop (off + k).toNat).take v, off + k + v)
theorem readB_no {zs : List Int} {off mx : Int} (h : readU zs off = none) : readB zs off mx = none := by rw [readB, h]
theorem readB_off {zs : List Int} {off mx : Int} {v k : Nat} (h : readU zs off = some (v, k)) (ho : mx < v ∨ (zs.length : Int) - (off + k) < v) : readB zs off mx = none := by simp only [readB, h]; rw [if_pos ho]
theorem readB_yes {zs : List Int} {off mx : Int} {v k : Nat} (h : readU zs off = some (v, k)) (ho : ¬ (mx < v ∨ (zs.length : Int) - (off + k) < v)) : readB zs off mx = some ((zs.drop (off + k).toNat).take v, off + k + v) := by simp only [readB, h]; rw [if_neg ho]
/-- The results, by what is read. -/
def fstL (r : Option (List Int × Int)) : List Int := match r with | none => [] | some p => p.1
def sndL (r : Option (List Int × Int)) : Int := match r with | none => 0 | some p => p.2
set_option maxRecDepth 100000 in
set_option maxHeartbeats 1000000 in
theorem implReadB (A : Option Addr) (n c : Nat) (zs : List Int) (off mx : Int) (w : World) (h : Rz .u8 w A n zs) (hcap : n ≤ c) (hby : Byt zs) (hn : n ≤ 549755813888) (ho0 : -9223372036854775808 ≤ off) (ho1 : off ≤ 9223372036854775807)
    (hm0 : -9223372036854775808 ≤ mx) (hm1 : mx ≤ 9223372036854775807) :
    Calls Try.prog 42 #[.slice A n c, .int .i64 off, .int .i64 mx] w (FreshT .u8 5 (fstL (readB zs off mx)) (sndL (readB zs off mx)) (readB zs off mx).isSome w) := by
  have H := Lib.hid h
  have HBY := Lib.hid hby
  clear h hby
  rcases hR : readU zs off with _ | ⟨v, k⟩
  · have hv := readV_no hR
    rw [readB_no hR]
    have HV := Lib.hid hv
    clear hv hR
    go_enter Try.func42, Try.ntmps42
    go_wp2_with fail
    refine (implReadV A n _ zs off w _ HV.out H.out HBY.out hn ho0 ho1).mono ?_
    rintro e w1 ⟨rfl, hb⟩
    have HB := Lib.hid hb
    clear hb
    go_wp2_with fail
    go_ret3
    exact FreshT.ret ((Own.none_ .u8 5 w1).less HB.out.size) rfl rfl (HB.out.trans ((Below.refl _ _).alloc HB.out.size _))
  · obtain ⟨p0, p1, p2, p3, p4, -⟩ := put_readU HBY.out hR
    have hv := readV_some hR
    have HV := Lib.hid hv
    clear hv
    obtain ⟨o, rfl⟩ : ∃ o : Nat, off = o := ⟨off.toNat, by omega⟩
    have hln := H.out.1
    have hok : o + k ≤ n := by omega
    by_cases hbad : mx < v ∨ (zs.length : Int) - ((o : Int) + k) < v
    · rw [readB_off hR hbad]
      have hbad2 : mx < v ∨ ¬ mx < v ∧ (n : Int) - ((o : Int) + k) < v := by omega
      clear hR hln p1 hbad
      rcases hbad2 with hb1 | ⟨hb0, hb1⟩
      · go_enter Try.func42, Try.ntmps42
        go_wp2_with fail
        refine (implReadV A n _ zs o w _ HV.out H.out HBY.out hn ho0 ho1).mono ?_
        rintro e w1 ⟨rfl, hb⟩
        have HB := Lib.hid hb
        clear hb
        go_wp2_with fail
        go_ret3
        exact FreshT.ret ((Own.none_ .u8 5 w1).less HB.out.size) rfl rfl (HB.out.trans ((Below.refl _ _).alloc HB.out.size _))
      · go_enter Try.func42, Try.ntmps42
        go_wp2_with fail
        refine (implReadV A n _ zs o w _ HV.out H.out HBY.out hn ho0 ho1).mono ?_
        rintro e w1 ⟨rfl, hb⟩
        have HB := Lib.hid hb
        clear hb
        go_wp2_with fail
        go_ret3
        exact FreshT.ret ((Own.none_ .u8 5 w1).less HB.out.size) rfl rfl (HB.out.trans ((Below.refl _ _).alloc HB.out.size _))
    · rw [readB_yes hR hbad]
      have hg1 : (v : Int) ≤ mx := by omega
      have hg2 : o + k + v ≤ n := by omega
      have hto : ((o : Int) + (k : Int)).toNat = o + k := by omega
      rw [hto]
      clear hR hln p1 hbad hto
      rcases Nat.eq_zero_or_pos v with rfl | hv0
      · go_enter Try.func42, Try.ntmps42
        go_wp2_with fail
        refine (implReadV A n _ zs o w _ HV.out H.out HBY.out hn ho0 ho1).mono ?_
        rintro e w1 ⟨rfl, hb⟩
        have HB := Lib.hid hb
        clear hb
        go_wp2_with fail
        refine (copyBytes A 0 _ [] _ Rz.nil (by omega)).mono ?_
        rintro e w2 ⟨A2, n2, c2, rfl, hO2, hb2⟩
        have HO2 := Lib.hid hO2
        have HB2 := Lib.hid hb2
        clear hO2 hb2
        go_wp2_with fail
        go_ret3
        exact FreshT.ret (HO2.out.less HB.out.size) rfl (by simp [sndL]) (HB.out.trans (HB2.out.mono HB.out.size))
      · go_enter Try.func42, Try.ntmps42
        go_wp2_with fail
        refine (implReadV A n _ zs o w _ HV.out H.out HBY.out hn ho0 ho1).mono ?_
        rintro e w1 ⟨rfl, hb⟩
        have HB := Lib.hid hb
        clear hb
        have HC := Lib.hid ((H.out.below HB.out).cut hg2)
        go_wp2_with fail
        refine (copyBytes _ v v _ _ HC.out (by omega)).mono ?_
        rintro e w2 ⟨A2, n2, c2, rfl, hO2, hb2⟩
        have HO2 := Lib.hid hO2
        have HB2 := Lib.hid hb2
        clear hO2 hb2
        go_wp2_with fail
        go_ret3
        exact FreshT.ret (HO2.out.less HB.out.size) rfl rfl (HB.out.trans (HB2.out.mono HB.out.size))
set_option maxRecDepth 100000 in
set_option maxHeartbeats 1000000 in
theorem specReadB (A : Option Addr) (n c : Nat) (zs : List Int) (off mx : Int) (w : World) (h : Rz .u8 w A n zs) (hcap : n ≤ c) (hby : Byt zs) (hn : n ≤ 549755813888) (ho0 : -9223372036854775808 ≤ off) (ho1 : off ≤ 9223372036854775807)
    (hm0 : -9223372036854775808 ≤ mx) (hm1 : mx ≤ 9223372036854775807) :
    Calls Try.prog 66 #[.slice A n c, .int .i64 off, .int .i64 mx] w (FreshT .u8 5 (fstL (readB zs off mx)) (sndL (readB zs off mx)) (readB zs off mx).isSome w) := by
  have H := Lib.hid h
  have HBY := Lib.hid hby
  clear h hby
  rcases hR : readU zs off with _ | ⟨v, k⟩
  · have hv := readV_no hR
    rw [readB_no hR]
    have HV := Lib.hid hv
    clear hv hR
    go_enter Try.func66, Try.ntmps66
    go_wp2_with fail
    refine (specReadV A n _ zs off w _ HV.out H.out HBY.out hn ho0 ho1).mono ?_
    rintro e w1 ⟨rfl, hb⟩
    have HB := Lib.hid hb
    clear hb
    go_wp2_with fail
    go_ret3
    exact FreshT.ret ((Own.none_ .u8 5 w1).less HB.out.size) rfl rfl (HB.out.trans ((Below.refl _ _).alloc HB.out.size _))
  · obtain ⟨p0, p1, p2, p3, p4, -⟩ := put_readU HBY.out hR
    have hv := readV_some hR
    have HV := Lib.hid hv
    clear hv
    obtain ⟨o, rfl⟩ : ∃ o : Nat, off = o := ⟨off.toNat, by omega⟩
    have hln := H.out.1
    have hok : o + k ≤ n := by omega
    by_cases hbad : mx < v ∨ (zs.length : Int) - ((o : Int) + k) < v
    · rw [readB_off hR hbad]
      have hbad2 : mx < v ∨ ¬ mx < v ∧ (n : Int) - ((o : Int) + k) < v := by omega
      clear hR hln p1 hbad
      rcases hbad2 with hb1 | ⟨hb0, hb1⟩
      · go_enter Try.func66, Try.ntmps66
        go_wp2_with fail
        refine (specReadV A n _ zs o w _ HV.out H.out HBY.out hn ho0 ho1).mono ?_
        rintro e w1 ⟨rfl, hb⟩
        have HB := Lib.hid hb
        clear hb
        go_wp2_with fail
        go_ret3
        exact FreshT.ret ((Own.none_ .u8 5 w1).less HB.out.size) rfl rfl (HB.out.trans ((Below.refl _ _).alloc HB.out.size _))
      · go_enter Try.func66, Try.ntmps66
        go_wp2_with fail
        refine (specReadV A n _ zs o w _ HV.out H.out HBY.out hn ho0 ho1).mono ?_
        rintro e w1 ⟨rfl, hb⟩
        have HB := Lib.hid hb
        clear hb
        go_wp2_with fail
        go_ret3
        exact FreshT.ret ((Own.none_ .u8 5 w1).less HB.out.size) rfl rfl (HB.out.trans ((Below.refl _ _).alloc HB.out.size _))
    · rw [readB_yes hR hbad]
      have hg1 : (v : Int) ≤ mx := by omega
      have hg2 : o + k + v ≤ n := by omega
      have hto : ((o : Int) + (k : Int)).toNat = o + k := by omega
      rw [hto]
      clear hR hln p1 hbad hto
      obtain ⟨i0, hi, hz0, hz1, hz2⟩ := info_parts infoB
      by_cases hcp : c = o + k
      · obtain rfl : v = 0 := by omega
        subst hcp
        go_enter Try.func66, Try.ntmps66
        go_wp2_with fail
        refine (specReadV A n _ zs o w _ HV.out H.out HBY.out hn ho0 ho1).mono ?_
        rintro e w1 ⟨rfl, hb⟩
        have HB := Lib.hid hb
        clear hb
        go_wp2_with (at_builtin; refine wpList_append_rz _ rfl _ _ 22 rfl .u8 5 i0 0 1 Try.underlying22 hi hz0 hz1 hz2 w1.heap.size (w1.heap.size + 1) _ 0 0 [] rfl (Own.none_ .u8 5 w1) A 0 _ [] rfl Rz.nil (by unfold maxLen; omega) (by omega) (by simp) ?_; intro A2 c2 w2 hO2 hS2; have HO2 := Lib.hid hO2; have HS2 := Lib.hid hS2; clear hO2 hS2)
        go_ret3
        exact FreshT.ret (HO2.out.less HB.out.size) rfl (by simp [sndL]) (HB.out.trans ((HS2.out.below ((Below.refl _ _).alloc (Nat.le_refl _) _) (Nat.le_refl _) (by simp)).mono HB.out.size))
      · go_enter Try.func66, Try.ntmps66
        go_wp2_with fail
        refine (specReadV A n _ zs o w _ HV.out H.out HBY.out hn ho0 ho1).mono ?_
        rintro e w1 ⟨rfl, hb⟩
        have HB := Lib.hid hb
        clear hb
        have HC := Lib.hid (((H.out.below HB.out).cut' (r := o + k + v - (o + k)) hg2 (by omega)).alloc (.cells #[] 5))
        go_wp2_with (at_builtin; refine wpList_append_rz _ rfl _ _ 22 rfl .u8 5 i0 0 1 Try.underlying22 hi hz0 hz1 hz2 w1.heap.size (w1.heap.size + 1) _ 0 0 [] rfl (Own.none_ .u8 5 w1) _ (o + k + v - (o + k)) _ _ rfl HC.out (by unfold maxLen; omega) (by omega) (by simp) ?_; intro A2 c2 w2 hO2 hS2; have HO2 := Lib.hid hO2; have HS2 := Lib.hid hS2; clear hO2 hS2)
        go_ret3
        have hO3 : Own .u8 5 w1.heap.size w2.heap.size w2 A2 v c2 ((zs.drop (o + k)).take v) := by
          have h := HO2.out
          rw [show 0 + (o + k + v - (o + k)) = v by omega, List.nil_append] at h
          exact h
        exact FreshT.ret (hO3.less HB.out.size) rfl rfl (HB.out.trans ((HS2.out.below ((Below.refl _ _).alloc (Nat.le_refl _) _) (Nat.le_refl _) (by simp)).mono HB.out.size))
end Go.Proofs.Ytchofnligbgigaa
