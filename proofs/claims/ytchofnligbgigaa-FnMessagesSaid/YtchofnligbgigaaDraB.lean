/- Chapter 11's draws: bent bytes. -/
import Derived.Test.YtchofnligbgigaaEncV
import Derived.Test.YtchofnligbgigaaDrawB
import Derived.IntWalk
import Derived.LoopTactic
import Derived.Lib.Hide
import Derived.Deep.QuietTactic
import Derived.BigQuiet
import Derived.Deep.RegionWith
import Derived.Handy
namespace Go.Proofs.Ytchofnligbgigaa
open Go.RowKit
set_option linter.unusedVariables false
set_option linter.unusedSimpArgs false
theorem Rz.take_ {k : IntKind} {w : World} {A : Option Addr} {n i : Nat} {zs : List Int} (h : Rz k w A n zs) (hi : i ≤ n) : Rz k w A i (zs.take i) := by
  have hl := h.1
  refine ⟨by rw [List.length_take]; omega, ?_⟩
  rcases h.2 with h2 | ⟨b, off, e, hb, hc⟩
  · left
    have : zs = [] := by simpa using h2
    subst this
    simp
  · right
    refine ⟨b, off, e, hb, fun j v hv => hc j v ?_⟩
    rw [List.getElem?_map] at hv ⊢
    rw [List.getElem?_take] at hv
    split at hv
    · exact hv
    · simp at hv
/-- Bent bytes. -/
def DrewBt (B g : Nat) (w : World) (e : Ending) (w' : World) : Prop :=
  ∃ A n c zs, e = .returned (.slice A n c) ∧ Rz .u8 w' A n zs ∧ n ≤ c ∧ Byt zs ∧ n ≤ 1048579 ∧ Left B g w w'
theorem Byt.set {zs : List Int} {i : Nat} {v : Int} (h : Byt zs) (hv : 0 ≤ v ∧ v ≤ 255) : Byt (zs.set i v) := fun z hz => by
  rcases List.mem_or_eq_of_mem_set hz with hz | rfl
  · exact h z hz
  · exact hv
set_option maxRecDepth 100000 in
set_option maxHeartbeats 8000000 in
theorem l1Bent (B g : Nat) (A : Option Addr) (n c : Nat) (zs : List Int) (w : World) (hc : Cur w B g) (h : Rz .u8 w A n zs) (hby : Byt zs) (hn : n ≤ 1048577) : Calls Try.prog 48 #[.pointer (some ⟨g, 0, none⟩), .slice A n c] w (DrewBt B g w) := by
  obtain ⟨i0, hi, hz0, hz1, hz2⟩ := info_parts infoB
  have hg := hc.lt
  have H := Lib.hid h
  have HBY := Lib.hid hby
  have HCU := Lib.hid hc
  clear h hby hc
  go_enter Try.func48, Try.ntmps48
  go_wp2_with (at_builtin; refine wpList_append_rz _ rfl _ _ 22 rfl .u8 5 i0 0 1 Try.underlying22 hi hz0 hz1 hz2 w.heap.size (w.heap.size + 1) _ 0 0 [] rfl (Own.none_ .u8 5 w) A n c zs rfl (H.out.alloc _) (by unfold maxLen; omega) (by omega) (by simp) ?_; intro A1 c1 w1 hO1 hS1; have O1 : Hid (Own .u8 5 w.heap.size w1.heap.size w1 A1 n c1 zs) := Lib.hid (by have h1 := hO1; rw [Nat.zero_add, List.nil_append] at h1; exact h1); have hb1 : Below w.heap.size w w1 := hS1.below ((Below.refl _ _).alloc (Nat.le_refl _) _) (Nat.le_refl _) (by simp); have HL : Hid (Left B g w w1) := Lib.hid ⟨HCU.out.low hb1 hg, Turn.of_below hb1⟩; have HS := Lib.hid hb1.size; clear hO1 hS1 hb1)
  try simp only [Nat.zero_add]
  refine (l1Below B g 6 _ (by omega) (by omega) HL.out.1).mono ?_
  rintro e w2 ⟨x, hx0, hx1, rfl, hL⟩
  have O2 : Hid (Own .u8 5 w.heap.size w1.heap.size w2 A1 n c1 zs) := Lib.hid (O1.out.turn hL.2 hg)
  replace HL : Hid (Left B g w w2) := Lib.hid (HL.out.trans hL)
  have hlen := O1.out.1
  have hcap := O1.out.cap.1
  have HLEN := Lib.hid hlen
  clear hL O1 hlen
  by_cases h0 : x = 0
  · subst h0
    by_cases hpos : 0 < n
    · have hp2 : (0 : Int) < (n : Int) := by omega
      go_wp2_with fail
      refine (l1Below B g (n : Int) _ (by omega) (by omega) HL.out.1).mono ?_
      rintro e w3 ⟨i, hi0, hi1, rfl, hL⟩
      obtain ⟨j, rfl⟩ : ∃ j : Nat, i = j := ⟨i.toNat, by omega⟩
      have O3 : Hid (Own .u8 5 w.heap.size w1.heap.size w3 A1 n c1 zs) := Lib.hid (O2.out.turn hL.2 hg)
      replace HL : Hid (Left B g w w3) := Lib.hid (HL.out.trans hL)
      clear hL
      go_wp2_with fail
      refine (l1Below B g 256 _ (by omega) (by omega) HL.out.1).mono ?_
      rintro e w4 ⟨v, hv0, hv1, rfl, hL⟩
      have O4 : Hid (Own .u8 5 w.heap.size w1.heap.size w4 A1 n c1 zs) := Lib.hid (O3.out.turn hL.2 hg)
      replace HL : Hid (Left B g w w4) := Lib.hid (HL.out.trans hL)
      clear hL O2 O3
      have hjn : j < n := by omega
      obtain ⟨g1, z, hA1, hga, hgb, hz, hcell, hfz⟩ := O4.out.slot hjn
      subst hA1
      obtain ⟨h5, h6⟩ := O4.out.store (i := j) rfl v
      have H5 := Lib.hid h5
      have H6 := Lib.hid h6
      have hw : IntKind.u8.wrap v = v := IntWalk.u8_in _ (by omega)
      have hvm : v % 256 = v := by omega
      have hj2 : (j : Int) < (n : Int) := by omega
      clear h5 h6 hz
      go_wp2_with fail
      go_ret
      exact ⟨_, _, _, _, rfl, H5.out.rz, hcap, HBY.out.set (by omega), by omega, HL.out.low (H6.out.low HL.out.2.size) (Nat.le_refl _) hg⟩
    · have hp2 : ¬ (0 : Int) < (n : Int) := by omega
      have hp3 : n = 0 := by omega
      have HP := Lib.hid hp3
      clear hp3
      go_wp2_with fail
      go_ret
      exact ⟨_, _, _, _, rfl, O2.out.rz, hcap, HBY.out, by omega, HL.out⟩
  by_cases h1 : x = 1
  · subst h1
    have hw : IntKind.i64.wrap ((n : Int) + 1) = (n : Int) + 1 := IntWalk.i64_in _ (by omega)
    go_wp2_with fail
    refine (l1Below B g ((n : Int) + 1) _ (by omega) (by omega) HL.out.1).mono ?_
    rintro e w3 ⟨i, hi0, hi1, rfl, hL⟩
    obtain ⟨j, rfl⟩ : ∃ j : Nat, i = j := ⟨i.toNat, by omega⟩
    have O3 : Hid (Own .u8 5 w.heap.size w1.heap.size w3 A1 n c1 zs) := Lib.hid (O2.out.turn hL.2 hg)
    replace HL : Hid (Left B g w w3) := Lib.hid (HL.out.trans hL)
    clear hL O2
    have hjn : j ≤ n := by omega
    have hjc : (j : Int) ≤ (c1 : Int) := by omega
    have hjc2 : j ≤ c1 := by omega
    have hj0 : (0 : Int) ≤ (j : Int) := by omega
    go_wp2_with fail
    go_ret
    exact ⟨_, _, _, _, rfl, O3.out.rz.take_ hjn, hjc2, HBY.out.take _, by omega, HL.out⟩
  by_cases h2 : x = 2
  · subst h2
    go_wp2_with fail
    refine (l1Int_new B g [0, 1, 128, 255] 4 0 255 w2 rfl (by intro z hz; simp at hz; omega) (by omega) (by omega) HL.out.1 _ (by simp) _).mono ?_
    rintro e w3 ⟨v, hv0, hv1, rfl, hL⟩
    have O3 : Hid (Own .u8 5 w.heap.size w1.heap.size w3 A1 n c1 zs) := Lib.hid (O2.out.turn hL.2 hg)
    replace HL : Hid (Left B g w w3) := Lib.hid (HL.out.trans hL)
    clear hL O2
    have hw : IntKind.u8.wrap v = v := IntWalk.u8_in _ (by omega)
    have hvm : v % 256 = v := by omega
    have hs3 := HL.out.2.size
    go_wp2_with (at_builtin; refine wpList_append_rz _ rfl _ _ 22 rfl .u8 5 i0 0 1 Try.underlying22 hi hz0 hz1 hz2 w.heap.size w1.heap.size A1 n c1 zs rfl (O3.out.alloc _) _ 1 1 [v] rfl (Rz.one _ _ _ _) (by unfold maxLen; omega) (by omega) (by simp; omega) ?_; intro A4 c4 w4 hO4 hS4; have O4 := Lib.hid hO4; have HL4 : Hid (Left B g w w4) := Lib.hid (HL.out.low (((Below.refl _ _).alloc hs3 _).trans (hS4.low (by simp; omega))) (Nat.le_refl _) hg); clear hO4 hS4)
    go_ret
    exact ⟨_, _, _, _, rfl, O4.out.rz, O4.out.cap.1, HBY.out.snoc hv0 hv1, by omega, HL4.out⟩
  · go_wp2_with fail
    go_ret
    exact ⟨_, _, _, _, rfl, O2.out.rz, hcap, HBY.out, by omega, HL.out⟩
end Go.Proofs.Ytchofnligbgigaa
