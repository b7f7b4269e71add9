/- The program's Encrypt and Decrypt, as lists. -/
import Derived.Test.YtkbenfnmigkclaaStream
import Derived.Deep.RegionWith
namespace Go.Proofs.Ytkbenfnmigkclaa
open Go.RowKit
def crypt (f : Int → Nat → Int) (zs : List Int) : List Int := zs.mapIdx fun i z => f z i
theorem crypt_len (f : Int → Nat → Int) (zs : List Int) : (crypt f zs).length = zs.length := by simp [crypt]
theorem crypt_at {f : Int → Nat → Int} {zs : List Int} {i : Nat} {z : Int} (h : zs[i]? = some z) : (crypt f zs)[i]? = some (f z i) := by simp [crypt, h]
def fEnc (key : Int) (z : Int) (i : Nat) : Int := (z + ks key i) % 256
def fDec (key : Int) (z : Int) (i : Nat) : Int := (z - ks key i) % 256
/-- The first i bytes are turned. -/
def Crypting (f : Int → Nat → Int) (key : Int) (zs : List Int) (lo hi gk gi : Nat) (w : World) (i : Nat) (A : Option Addr) (n c : Nat) (wr : World) : Prop :=
  ∃ ys, Own .u8 5 lo hi wr A n c ys ∧ (∀ j, j < i → ys[j]? = (crypt f zs)[j]?) ∧ (∀ j, i ≤ j → ys[j]? = zs[j]?) ∧ Stream key gk gi i wr ∧ Below w.heap.size w wr
theorem Step.undrew {lo hi : Nat} {w w' : World} (h : Step lo hi w.drew w') : Step lo hi w w' := ⟨h.os, h.tape, h.output, h.size, h.block⟩
theorem Stream.store {key : Int} {gk gi i g j : Nat} {w : World} {v : Value} (h : Stream key gk gi i w) (hg : g < gk) : Stream key gk gi i (w.setCell ⟨g, j, none⟩ v) := by
  obtain ⟨h1, h2, h3⟩ := h
  refine ⟨?_, ?_, h3⟩
  · rw [Below.heap_setCell _ _ _ _ (by simp; omega)]
    exact h1
  · rw [Below.heap_setCell _ _ _ _ (by simp; omega)]
    exact h2
theorem Crypting.next {f : Int → Nat → Int} {key : Int} {zs ys : List Int} {lo hi gk gi i g n c : Nat} {w wr w2 : World} {z : Int} (hw : w.heap.size ≤ lo) (hgk : hi ≤ gk)
    (hO : Own .u8 5 lo hi wr (some ⟨g, 0, none⟩) n c ys) (h1 : ∀ j, j < i → ys[j]? = (crypt f zs)[j]?) (h2 : ∀ j, i ≤ j → ys[j]? = zs[j]?) (hb : Below w.heap.size w wr)
    (hs : Step gi (gi + 1) wr w2) (hg : Stream key gk gi (i + 1) w2) (hz : zs[i]? = some z) :
    Crypting f key zs lo hi gk gi w (i + 1) (some ⟨g, 0, none⟩) n c (w2.setCell ⟨g, i, none⟩ (.int .u8 (f z i))) := by
  have hgi := hg.2.2
  have hO2 := hO.step hs (by omega)
  obtain ⟨hO3, hs3⟩ := hO2.store (i := i) rfl (f z i)
  have hil : i < ys.length := by
    have e := h2 i (Nat.le_refl _)
    rw [hz] at e
    exact (List.getElem?_eq_some_iff.1 e).1
  have hb1 := hO.2.2.2 _ rfl
  have hlh : lo ≤ hi := by have := (hO.blk g rfl).1; simp at hb1; omega
  refine ⟨_, hO3, fun j hj => ?_, fun j hj => ?_, hg.store (by simp at hb1; omega), ?_⟩
  · rw [List.getElem?_set]
    by_cases e : i = j
    · subst e
      rw [if_pos rfl, if_pos hil, crypt_at hz]
    · rw [if_neg e]
      exact h1 j (by omega)
  · rw [List.getElem?_set, if_neg (by omega)]
    exact h2 j (by omega)
  · have h4 : Below w.heap.size w w2 := hs.below hb (by omega) hb.size
    exact hs3.below h4 hw h4.size
theorem Crypting.ret {f : Int → Nat → Int} {key : Int} {zs : List Int} {hi gk gi i n c : Nat} {w wr : World} {A : Option Addr} (h : Crypting f key zs w.heap.size hi gk gi w i A n c wr) (hi' : zs.length = i) : Fresh .u8 5 (crypt f zs) w (.returned (.slice A n c)) wr := by
  obtain ⟨ys, hO, h1, h2, h3, h4⟩ := h
  have e : ys = crypt f zs := by
    apply List.ext_getElem?
    intro j
    by_cases hj : j < i
    · exact h1 j hj
    · rw [h2 j (by omega), List.getElem?_eq_none (by omega), List.getElem?_eq_none (by rw [crypt_len]; omega)]
  subst e
  have hs := hO.2.2.1
  exact Fresh.ret (hO.more hs (Nat.le_refl _)) h4
set_option maxRecDepth 100000 in
set_option maxHeartbeats 1000000 in
theorem implEnc (key : Int) (A : Option Addr) (n c : Nat) (zs : List Int) (w : World) (h : Rz .u8 w A n zs) (hn : n ≤ 1099511627776) :
    Calls Try.prog 17 #[.int .i64 key, .slice A n c] w (Fresh .u8 5 (crypt (fEnc key) zs) w) := by
  have H := Lib.hid h
  clear h
  go_enter Try.func17, Try.ntmps17
  go_wp2_with fail
  refine (copyBytes A n c zs _ H.out hn).mono ?_
  rintro e w1 ⟨A1, n1, c1, rfl, hO, hb⟩
  have hn1 : n1 = n := by have h1 := hO.1; have h2 := H.out.1; omega
  subst hn1
  have HO := Lib.hid hO
  have HB := Lib.hid hb
  have hs1 := hb.size
  clear hO hb
  go_wp2_with fail
  refine (openStream key _).mono ?_
  rintro e w2 ⟨gk, gi, rfl, hS, hgk, hb2⟩
  have C0 : Hid (Crypting (fEnc key) key zs w.heap.size w1.heap.size gk gi w 0 A1 n1 c1 w2) := Lib.hid ⟨zs, HO.out.below hb2, fun j hj => by omega, fun j _ => rfl, hS, HB.out.trans (hb2.mono hs1)⟩
  clear hS hb2
  go_wp2_with fail
  go_loopw [14] (fun iv wr => ∃ i : Nat, i ≤ n1 ∧ iv = .int .i64 i ∧ Crypting (fEnc key) key zs w.heap.size w1.heap.size gk gi w i A1 n1 c1 wr) (fun iv _ => n1 - (intOf iv).toNat)
  case atStart => exact ⟨0, Nat.zero_le _, rfl, C0.out⟩
  case round =>
    obtain ⟨i, hin, rfl, hC⟩ := hrel
    by_cases hlt : i < n1
    · obtain ⟨ys, hO, h1, h2, hS, hb⟩ := hC
      obtain ⟨g, z, hA, hg1, hg2, hzi, hcell, hfz⟩ := hO.slot hlt
      subst hA
      obtain ⟨hx0, hx1⟩ := ks_in key i
      have HOr := Lib.hid hO
      have HSr : Hid (Stream key gk gi i wr.drew) := Lib.hid hS
      have hki : gk < gi := hS.2.2
      have HZ := Lib.hid ((h2 i (Nat.le_refl _)).symm.trans hzi)
      have HBr := Lib.hid hb
      have H1 := Lib.hid h1
      have H2 := Lib.hid h2
      clear hO hS hzi hb h1 h2
      go_wp2_with fail
      go_region_with (
        go_at_call 60
        (
          refine (nextByte key gk gi i wr.drew HSr.out (by omega)).mono ?_
          rintro e w3 ⟨rfl, hS3, hst⟩
          have hst' := hst.undrew
          have hO3 := HOr.out.step hst' (by omega)
          obtain ⟨g', z', hA', -, -, hzi', hcell3, hfz3⟩ := hO3.slot hlt
          obtain rfl : z = z' := Option.some.inj (HZ.out.symm.trans ((H2.out i (Nat.le_refl _)).symm.trans hzi'))
          injection hA' with hA'
          injection hA' with hA'
          subst hA'
          clear hO3 hzi'
          have HS3 := Lib.hid hS3
          have HST := Lib.hid hst'
          clear hS3 hst hst'))
      all_goals (
        have hN : Crypting (fEnc key) key zs w.heap.size w1.heap.size gk gi w (i + 1) (some ⟨g, 0, none⟩) n1 c1 (w3.setCell ⟨g, i, none⟩ (.int .u8 ((z + ks key i) % 256))) := Crypting.next (Nat.le_refl _) hgk HOr.out H1.out H2.out HBr.out HST.out HS3.out HZ.out
        go_wp2_with fail
        go_roundw
        case rel => exact ⟨i + 1, by omega, by go_num, hN⟩
        case measure => simp [intOf]; omega)
    · obtain rfl : i = n1 := by omega
      have CC := Lib.hid hC
      clear hC
      go_wp2_with fail
      go_ret
      exact CC.out.ret (by have := H.out.1; omega)
set_option maxRecDepth 100000 in
set_option maxHeartbeats 1000000 in
theorem implDec (key : Int) (A : Option Addr) (n c : Nat) (zs : List Int) (w : World) (h : Rz .u8 w A n zs) (hn : n ≤ 1099511627776) :
    Calls Try.prog 16 #[.int .i64 key, .slice A n c] w (Fresh .u8 5 (crypt (fDec key) zs) w) := by
  have H := Lib.hid h
  clear h
  go_enter Try.func16, Try.ntmps16
  go_wp2_with fail
  refine (copyBytes A n c zs _ H.out hn).mono ?_
  rintro e w1 ⟨A1, n1, c1, rfl, hO, hb⟩
  have hn1 : n1 = n := by have h1 := hO.1; have h2 := H.out.1; omega
  subst hn1
  have HO := Lib.hid hO
  have HB := Lib.hid hb
  have hs1 := hb.size
  clear hO hb
  go_wp2_with fail
  refine (openStream key _).mono ?_
  rintro e w2 ⟨gk, gi, rfl, hS, hgk, hb2⟩
  have C0 : Hid (Crypting (fDec key) key zs w.heap.size w1.heap.size gk gi w 0 A1 n1 c1 w2) := Lib.hid ⟨zs, HO.out.below hb2, fun j hj => by omega, fun j _ => rfl, hS, HB.out.trans (hb2.mono hs1)⟩
  clear hS hb2
  go_wp2_with fail
  go_loopw [14] (fun iv wr => ∃ i : Nat, i ≤ n1 ∧ iv = .int .i64 i ∧ Crypting (fDec key) key zs w.heap.size w1.heap.size gk gi w i A1 n1 c1 wr) (fun iv _ => n1 - (intOf iv).toNat)
  case atStart => exact ⟨0, Nat.zero_le _, rfl, C0.out⟩
  case round =>
    obtain ⟨i, hin, rfl, hC⟩ := hrel
    by_cases hlt : i < n1
    · obtain ⟨ys, hO, h1, h2, hS, hb⟩ := hC
      obtain ⟨g, z, hA, hg1, hg2, hzi, hcell, hfz⟩ := hO.slot hlt
      subst hA
      obtain ⟨hx0, hx1⟩ := ks_in key i
      have HOr := Lib.hid hO
      have HSr : Hid (Stream key gk gi i wr.drew) := Lib.hid hS
      have hki : gk < gi := hS.2.2
      have HZ := Lib.hid ((h2 i (Nat.le_refl _)).symm.trans hzi)
      have HBr := Lib.hid hb
      have H1 := Lib.hid h1
      have H2 := Lib.hid h2
      clear hO hS hzi hb h1 h2
      go_wp2_with fail
      go_region_with (
        go_at_call 60
        (
          refine (nextByte key gk gi i wr.drew HSr.out (by omega)).mono ?_
          rintro e w3 ⟨rfl, hS3, hst⟩
          have hst' := hst.undrew
          have hO3 := HOr.out.step hst' (by omega)
          obtain ⟨g', z', hA', -, -, hzi', hcell3, hfz3⟩ := hO3.slot hlt
          obtain rfl : z = z' := Option.some.inj (HZ.out.symm.trans ((H2.out i (Nat.le_refl _)).symm.trans hzi'))
          injection hA' with hA'
          injection hA' with hA'
          subst hA'
          clear hO3 hzi'
          have HS3 := Lib.hid hS3
          have HST := Lib.hid hst'
          clear hS3 hst hst'))
      all_goals (
        have hN : Crypting (fDec key) key zs w.heap.size w1.heap.size gk gi w (i + 1) (some ⟨g, 0, none⟩) n1 c1 (w3.setCell ⟨g, i, none⟩ (.int .u8 ((z - ks key i) % 256))) := Crypting.next (Nat.le_refl _) hgk HOr.out H1.out H2.out HBr.out HST.out HS3.out HZ.out
        go_wp2_with fail
        go_roundw
        case rel => exact ⟨i + 1, by omega, by go_num, hN⟩
        case measure => simp [intOf]; omega)
    · obtain rfl : i = n1 := by omega
      have CC := Lib.hid hC
      clear hC
      go_wp2_with fail
      go_ret
      exact CC.out.ret (by have := H.out.1; omega)
end Go.Proofs.Ytkbenfnmigkclaa
