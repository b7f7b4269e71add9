/- Chapter 8, the reference's: what is set on both ways. -/
import Derived.Test.YtgibhbplgiejpaaGreatChkB
import Derived.Test.YtgibhbplgiejpaaGreatRegs
namespace Go.Proofs.YtgibhbplgiejpaaGreat
open Go.RowKit
set_option linter.unusedVariables false
set_option linter.unusedSimpArgs false
theorem own_head {w : World} {U : List Bool} {A : Option Addr} {n c : Nat} {B : Nat → Prop} (h : Owns w (bools U) [.slice A n c] B) (hn : 0 < n) : ∃ g, A = some ⟨g, 0, none⟩ ∧ B g := by
  obtain ⟨g, E, cur, d, xs, Bi, Br, e, hg, -⟩ := Owns.focus (k := 1) h (bools_w U) hn
  exact ⟨g, e, hg⟩
theorem bools_len {w : World} {U : List Bool} {A : Option Addr} {n c : Nat} (h : Lies w (bools U) [.slice A n c]) : U.length = n := by
  have h1 := h.count
  rw [List.length_map] at h1
  exact h1
/-- The first i are met. -/
structure Met (Ua Ub U : List Bool) (i : Nat) : Prop where
  len : U.length = Ub.length
  yes : ∀ j, j < i → U[j]? = some (Ua.getD j false && Ub.getD j false)
  no : ∀ j, i ≤ j → U[j]? = Ub[j]?
theorem Met.start (Ua Ub : List Bool) : Met Ua Ub Ub 0 := ⟨rfl, fun j h => by omega, fun j _ => rfl⟩
theorem Met.next {Ua Ub U : List Bool} {i : Nat} {a v : Bool} (h : Met Ua Ub U i) (ha : Ua[i]? = some a) (hi : i < Ub.length) (hv : v = (a && Ub.getD i false)) : Met Ua Ub (U.set i v) (i + 1) := by
  refine ⟨by rw [List.length_set]; exact h.len, fun j hj => ?_, fun j hj => ?_⟩
  · rw [List.getElem?_set]
    by_cases e : i = j
    · subst e
      rw [if_pos rfl, if_pos (by rw [h.len]; exact hi), hv]
      congr 2
      rw [List.getD_eq_getElem?_getD, ha]; rfl
    · rw [if_neg e]; exact h.yes j (by omega)
  · rw [List.getElem?_set, if_neg (by omega)]; exact h.no j (by omega)
theorem Met.all {Ua Ub U : List Bool} (h : Met Ua Ub U Ub.length) (hl : Ua.length = Ub.length) : U = meetL Ua Ub true := by
  rw [meetL, if_pos rfl]
  apply List.ext_getElem?
  intro j
  by_cases hj : j < Ub.length
  · rw [h.yes j hj, List.getElem?_zipWith, List.getElem?_eq_getElem (by omega), List.getElem?_eq_getElem hj, List.getD_eq_getElem?_getD, List.getD_eq_getElem?_getD, List.getElem?_eq_getElem (by omega), List.getElem?_eq_getElem hj]
    rfl
  · rw [List.getElem?_eq_none (by rw [h.len]; omega), List.getElem?_eq_none (by rw [List.length_zipWith]; omega)]
theorem meet_off (Ua Ub : List Bool) : Ub = meetL Ua Ub false := by rw [meetL, if_neg (by simp)]
/-- A new row of bools comes back. -/
def FreshB (U : List Bool) (w : World) (e : Ending) (w' : World) : Prop := ∃ A n c, e = .returned (.slice A n c) ∧ Owns w' (bools U) [.slice A n c] (rng w.heap.size w'.heap.size) ∧ Below w.heap.size w w'
structure MtS (W : World) (Ua Ub : List Bool) (M i : Nat) (A : Option Addr) (n c : Nat) (w : World) : Prop where
  own : ∃ U, Owns w (bools U) [.slice A n c] (rng W.heap.size M) ∧ Met Ua Ub U i
  low : Below W.heap.size W w
  size : M ≤ w.heap.size
theorem MtS.slot {W w : World} {Ua Ub : List Bool} {M i g n c : Nat} (h : MtS W Ua Ub M i (some ⟨g, 0, none⟩) n c w) (hi : i < n) : (∃ u, w.cell? ⟨g, i, none⟩ = some u) ∧ w.frozen? ⟨g, i, none⟩ = false := by
  obtain ⟨U, hO, -⟩ := h.own
  obtain ⟨v, -, h1, h2⟩ := own_slot hO hi
  exact ⟨⟨_, h1⟩, h2⟩
theorem MtS.next {W w : World} {Ua Ub : List Bool} {M i g n c : Nat} {a v : Bool} (h : MtS W Ua Ub M i (some ⟨g, 0, none⟩) n c w) (hi : i < n) (ha : Ua[i]? = some a) (hl : Ub.length = n) (hv : v = (a && Ub.getD i false)) : MtS W Ua Ub M (i + 1) (some ⟨g, 0, none⟩) n c (w.setCell ⟨g, i, none⟩ (.bool v)) := by
  obtain ⟨U, hO, hM⟩ := h.own
  obtain ⟨g', e, hg⟩ := own_head hO (by omega)
  obtain rfl : g = g' := by injection e with e; injection e
  exact ⟨⟨_, own_set hO hi v, hM.next ha (by omega) hv⟩, h.low.setCell (p := ⟨g, i, none⟩) hg.1 _, by simpa [World.setCell] using h.size⟩
theorem MtS.ret {W w : World} {Ua Ub : List Bool} {M i n c : Nat} {A : Option Addr} {R : List Bool} (h : MtS W Ua Ub M i A n c w) (hR : ∀ U, Met Ua Ub U i → U = R) : FreshB R W (.returned (.slice A n c)) w := by
  obtain ⟨U, hO, hM⟩ := h.own
  rw [hR U hM] at hO
  exact ⟨A, n, c, rfl, hO.mono (fun b hb => ⟨hb.1, Nat.lt_of_lt_of_le hb.2 h.size⟩), h.low⟩
theorem MtS.mk_ {W w1 w2 : World} {Ua Ub : List Bool} {A : Option Addr} {n c lo : Nat} (hb : Below W.heap.size W w1) (hlo : lo = W.heap.size) (hG : Grow 4 1 lo w2 A (0 + n) c ([] ++ Ub.map Dat.b) (fun _ => False ∨ False)) (hT : Touch (fun b => ∃ a, (some (⟨W.heap.size, 0, none⟩ : Addr)) = some a ∧ b = a.block) w1 w2) : MtS W Ua Ub w2.heap.size 0 A n c w2 := by
  subst hlo
  rw [Nat.zero_add, List.nil_append] at hG
  have hG' := hG.noB (fun b hb => hb.elim (fun h => h) (fun h => h))
  refine ⟨⟨Ub, hG'.owns.mono (fun b hb => ?_), Met.start Ua Ub⟩, hb.trans (hT.below (fun b ⟨a, e, hb⟩ => by obtain rfl := Option.some.inj e; subst hb; exact Nat.le_refl _) hb.size), Nat.le_refl _⟩
  rcases hb with ⟨a, e, rfl⟩ | hb
  · exact hG'.blk8 a e
  · exact hb.elim
theorem bools_flat (U : List Bool) : ∀ x ∈ U.map Dat.b, x.flat = true := fun x hx => by
  obtain ⟨y, -, rfl⟩ := List.mem_map.1 hx
  rfl
set_option maxRecDepth 100000 in
set_option maxHeartbeats 4000000 in
theorem specMeet (Ua Ub : List Bool) (A A' : Option Addr) (n n' c c' : Nat) (re : Bool) (w : World) (ha : Lies w (bools Ua) [.slice A n c]) (hb : Lies w (bools Ub) [.slice A' n' c']) (hre : re = true → n = n') (hn : n' ≤ 1099511627776) (hn2 : n ≤ 1099511627776) :
    Calls Tryz.prog 34 #[.slice A n c, .slice A' n' c', .bool re] w (FreshB (meetL Ua Ub re) w) := by
  obtain ⟨i0, hi, hz0, hz1, hz2⟩ := info_parts infoBool
  have B1 : Hid (∀ o, Below w.heap.size w (w.alloc o)) := Lib.hid (fun o => (Below.refl _ _).alloc (Nat.le_refl _) o)
  have HA := Lib.hid ha
  have HB := Lib.hid hb
  have G0 := Lib.hid (FG.lit 4 w w (w.heap.size + 1) (Below.refl _ _) (by omega)).grow
  have hlA := bools_len ha
  have hlB := bools_len hb
  have HLA := Lib.hid hlA
  have HLB := Lib.hid hlB
  clear ha hb hlA hlB
  go_enter Tryz.func34, Tryz.ntmps34
  go_wp2_with (at_builtin; refine wpList_append_dat _ rfl _ _ 57 rfl 1 (by omega) 4 i0 _ 1 Tryz.underlying57 hi hz0 hz1 rfl hz2 w.heap.size (some ⟨w.heap.size, 0, none⟩) 0 0 [] _ rfl G0.out A' n' c' (Ub.map Dat.b) (fun _ => False) rfl (Src.of_lies (HB.out.below (B1.out _)) (bools_w Ub) (bools_flat Ub)) (fun b h => h.elim) (fun a e h => h) (by unfold maxLen; omega) (by omega) (by simp) ?_; intro A1 c1 w1 hG hT hA1; have M := Lib.hid (MtS.mk_ (Ua := Ua) (B1.out _) rfl hG hT); clear hG hT hA1)
  generalize w1.heap.size = N at *
  go_loopw [8] (fun iv wr => ∃ i : Nat, i ≤ n ∧ (i = 0 ∨ re = true) ∧ iv = .int .i64 i ∧ MtS w Ua Ub N i A1 n' c1 wr) (fun iv _ => n - (intOf iv).toNat)
  case atStart => exact ⟨0, Nat.zero_le _, Or.inl rfl, rfl, M.out⟩
  case round =>
    obtain ⟨i, hin, hi0, rfl, hM⟩ := hrel
    replace M := Lib.hid hM
    clear hM
    cases re with
    | false =>
      obtain rfl : i = 0 := by rcases hi0 with h | h; exact h; cases h
      have HR := Lib.hid (M.out.ret (R := meetL Ua Ub false) (fun U hU => by
        rw [← meet_off]
        apply List.ext_getElem?
        intro j
        exact hU.no j (Nat.zero_le _)))
      by_cases hlt : 0 < n
      · go_wp2_with fail
        go_ret
        exact HR.out
      · go_wp2_with fail
        go_ret
        exact HR.out
    | true =>
      have hnn := hre rfl
      subst hnn
      clear hi0 hre
      by_cases hlt : i < n
      · obtain ⟨b, off, va, rfl, hbw, hva, hca⟩ := bools_at (HA.out.below M.out.low) hlt
        obtain ⟨b2, off2, vb, rfl, hbw2, hvb, hcb⟩ := bools_at (HB.out.below M.out.low) hlt
        obtain ⟨g, rfl, hg⟩ : ∃ g, A1 = some ⟨g, 0, none⟩ ∧ True := by
          obtain ⟨U, hO, -⟩ := M.out.own
          obtain ⟨g, e, -⟩ := own_head hO (by omega)
          exact ⟨g, e, trivial⟩
        obtain ⟨⟨u, hu⟩, hf⟩ := M.out.slot hlt
        have HVA := Lib.hid hva
        have HVB : Hid (Ub.getD i false = vb) := Lib.hid (by rw [List.getD_eq_getElem?_getD, hvb]; rfl)
        clear hva hvb
        cases va with
        | false =>
          have HN := Lib.hid (M.out.next (v := false) hlt HVA.out HLB.out rfl)
          go_wp2_with fail
          go_roundw
          case rel => exact ⟨i + 1, by omega, Or.inr trivial, by go_num, HN.out⟩
          case measure => (simp [intOf]; try omega)
        | true =>
          have HN := Lib.hid (M.out.next (v := vb) hlt HVA.out HLB.out (by rw [HVB.out]; rfl))
          go_wp2_with fail
          go_roundw
          case rel => exact ⟨i + 1, by omega, Or.inr trivial, by go_num, HN.out⟩
          case measure => (simp [intOf]; try omega)
      · have hE : i = n := by omega
        subst hE
        have HR := Lib.hid (M.out.ret (R := meetL Ua Ub true) (fun U hU => by
          have h1 := HLB.out
          have h2 := HLA.out
          subst h1
          exact hU.all h2))
        go_wp2_with fail
        go_ret
        exact HR.out
end Go.Proofs.YtgibhbplgiejpaaGreat
