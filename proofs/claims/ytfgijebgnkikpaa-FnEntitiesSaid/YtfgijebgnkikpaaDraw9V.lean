/- Draws of values, small ones: l4Any, l4List. -/
import Derived.Test.YtfgijebgnkikpaaBase
import Derived.Test.YtfgijebgnkikpaaSpecV
import Derived.Test.YtfgijebgnkikpaaVal
import Derived.LoopTactic
import Derived.Deep.RegionHeld3
namespace Go.Proofs.Ytfgijebgnkikpaa
open Go.RowKit
set_option linter.unusedVariables false
/-- Its numbers are small. -/
def SmV (v : V) : Prop := -1000000 ≤ v.kind ∧ v.kind ≤ 1000000 ∧ -1000000 ≤ v.n ∧ v.n ≤ 1000000
/-- A value was drawn. -/
def AnyV9 (B g : Nat) (w : World) (e : Ending) (w' : World) : Prop := ∃ v : V, e = .returned (.agg #[.int .i64 v.kind, .int .i64 v.n]) ∧ SmV v ∧ Left B g w w'
theorem AnyV9.ret {B g : Nat} {w w3 : World} (k n : Int) {p : Addr} (hp : w.heap.size ≤ p.block) {q : Addr} (hq : w.heap.size ≤ q.block) {u v : Value} (hg : g < w.heap.size) (h : Left B g w w3) (hs : SmV ⟨k, n⟩) :
    AnyV9 B g w (.returned (.agg #[.int .i64 k, .int .i64 n])) ((w3.setCell p u).setCell q v) :=
  ⟨⟨k, n⟩, rfl, hs, h.low (((Below.refl w.heap.size w3).setCell hp u).setCell hq v) (Nat.le_refl _) hg⟩
set_option maxHeartbeats 1000000 in
theorem l4Any9 (B g : Nat) (w : World) (hc : Cur w B g) : Calls Try.prog 82 #[.pointer (some ⟨g, 0, none⟩)] w (AnyV9 B g w) := by
  have hg := hc.lt
  have hne : w.heap.size ≠ g := by omega
  have HNE := Lib.hid hne
  have hc1 := Lib.hid (hc.alloc' (.cells #[.int .i64 0, .int .i64 0] 26))
  have z0 := Lib.hid (Zb.new w #[.int .i64 0, .int .i64 0] 26 (Nat.le_refl _))
  have HT := Lib.hid ((Turn.refl g w).alloc (.cells #[.int .i64 0, .int .i64 0] 26))
  clear hc hne
  go_enter Try.func82, Try.ntmps82
  go_wp2_with fail
  refine (l1Below B g 8 _ (by omega) (by omega) hc1.out).mono ?_
  rintro e w1 ⟨x, hx0, hx1, rfl, hL1⟩
  have z1 := Lib.hid (z0.out.turn hL1.2 HNE.out)
  have HL1 : Hid (Left B g w w1) := Lib.hid ⟨hL1.1, HT.out.trans hL1.2⟩
  clear z0 hc1 hL1 HT
  by_cases h0 : x = 0
  · subst h0
    go_wp2_with fail
    refine (l1Int_new B g [0, 1, 2, 5, -1] 5 (-1) 5 w1 rfl (by intro z hz; simp at hz; omega) (by omega) (by omega) HL1.out.1 _ (by simp) _).mono ?_
    rintro e w2 ⟨y, hy0, hy1, rfl, hL2⟩
    have z2 := Lib.hid (z1.out.turn hL2.2 HNE.out)
    have HL2 := Lib.hid (HL1.out.trans hL2)
    clear z1 HL1 hL2
    go_wp2_with fail
    refine (specRefV y _).mono ?_
    rintro e w3 ⟨rfl, hb⟩
    have z3 := z2.out.below hb
    have HL3 := Lib.hid (HL2.out.low hb HL2.out.2.size (by have := HL2.out.2.size; omega))
    obtain ⟨o1, o2, o3, o4⟩ := z3.two
    have q := z3.2.1.two (.int .i64 1) (.int .i64 y)
    have q1 := q.2 0 _ rfl
    have q2 := q.2 1 _ rfl
    clear hb q z3 HL2 z2
    go_wp2_with fail
    refine bodyPost_ret (v := .agg #[.int .i64 1, .int .i64 y]) (by simp [results, Try.results82, go_sem, q1, q2]) rfl ?_
    exact AnyV9.ret _ _ (Nat.le_refl _) (Nat.le_refl _) hg HL3.out ⟨by show (-1000000 : Int) ≤ 1; omega, by show (1 : Int) ≤ 1000000; omega, by show -1000000 ≤ y; omega, by show y ≤ 1000000; omega⟩
  by_cases h1 : x = 1
  · subst h1
    go_wp2_with fail
    refine (specBroV _).mono ?_
    rintro e w3 ⟨rfl, hb⟩
    have z3 := z1.out.below hb
    have HL3 := Lib.hid (HL1.out.low hb HL1.out.2.size (by have := HL1.out.2.size; omega))
    obtain ⟨o1, o2, o3, o4⟩ := z3.two
    have q := z3.2.1.two (.int .i64 2) (.int .i64 0)
    have q1 := q.2 0 _ rfl
    have q2 := q.2 1 _ rfl
    clear hb q z3 HL1 z1
    go_wp2_with fail
    refine bodyPost_ret (v := .agg #[.int .i64 2, .int .i64 0]) (by simp [results, Try.results82, go_sem, q1, q2]) rfl ?_
    exact AnyV9.ret _ _ (Nat.le_refl _) (Nat.le_refl _) hg HL3.out ⟨by show (-1000000 : Int) ≤ 2; omega, by show (2 : Int) ≤ 1000000; omega, by show (-1000000 : Int) ≤ 0; omega, by show (0 : Int) ≤ 1000000; omega⟩
  by_cases h2 : x = 2
  · subst h2
    go_wp2_with fail
    refine (l1Int_new B g [0, 1, 2, 3, -1] 5 (-1) 5 w1 rfl (by intro z hz; simp at hz; omega) (by omega) (by omega) HL1.out.1 _ (by simp) _).mono ?_
    rintro e w2 ⟨y, hy0, hy1, rfl, hL2⟩
    have z2 := Lib.hid (z1.out.turn hL2.2 HNE.out)
    have HL2 := Lib.hid (HL1.out.trans hL2)
    clear z1 HL1 hL2
    go_wp2_with fail
    refine (l1Int_new B g [0, -1, 999999, 1000000] 4 (-1) 1000000 w2 rfl (by intro z hz; simp at hz; omega) (by omega) (by omega) HL2.out.1 _ (by simp) _).mono ?_
    rintro e w3 ⟨z, hz0, hz1, rfl, hL3⟩
    have z3 := z2.out.turn hL3.2 HNE.out
    have HL3 := Lib.hid (HL2.out.trans hL3)
    obtain ⟨o1, o2, o3, o4⟩ := z3.two
    have q := z3.2.1.two (.int .i64 y) (.int .i64 z)
    have q1 := q.2 0 _ rfl
    have q2 := q.2 1 _ rfl
    clear q z3 HL2 z2 hL3
    go_wp2_with fail
    refine bodyPost_ret (v := .agg #[.int .i64 y, .int .i64 z]) (by simp [results, Try.results82, go_sem, q1, q2]) rfl ?_
    exact AnyV9.ret _ _ (Nat.le_refl _) (Nat.le_refl _) hg HL3.out ⟨by show -1000000 ≤ y; omega, by show y ≤ 1000000; omega, by show -1000000 ≤ z; omega, by show z ≤ 1000000; omega⟩
  · go_wp2_with fail
    refine (l1Below B g 50 _ (by omega) (by omega) HL1.out.1).mono ?_
    rintro e w2 ⟨y, hy0, hy1, rfl, hL2⟩
    have z2 := Lib.hid (z1.out.turn hL2.2 HNE.out)
    have HL2 := Lib.hid (HL1.out.trans hL2)
    clear z1 HL1 hL2
    go_wp2_with fail
    refine (specIntV y _).mono ?_
    rintro e w3 ⟨rfl, hb⟩
    have hv9 : SmV (intV y) := ⟨by show (-1000000 : Int) ≤ 0; omega, by show (0 : Int) ≤ 1000000; omega, by show -1000000 ≤ y % 1000000; omega, by show y % 1000000 ≤ 1000000; omega⟩
    generalize intV y = v at *
    have z3 := z2.out.below hb
    have HL3 := Lib.hid (HL2.out.low hb HL2.out.2.size (by have := HL2.out.2.size; omega))
    obtain ⟨o1, o2, o3, o4⟩ := z3.two
    have q := z3.2.1.two (.int .i64 v.kind) (.int .i64 v.n)
    have q1 := q.2 0 _ rfl
    have q2 := q.2 1 _ rfl
    clear hb q z3 HL2 z2
    go_wp2_with fail
    refine bodyPost_ret (v := .agg #[.int .i64 v.kind, .int .i64 v.n]) (by simp [results, Try.results82, go_sem, q1, q2]) rfl ?_
    exact AnyV9.ret _ _ (Nat.le_refl _) (Nat.le_refl _) hg HL3.out hv9
theorem Code.low9 {w w' : World} {A : Option Addr} {n : Nat} (h : Code w A n) (hb : Below w.heap.size w w') : Code w' A n := by
  obtain ⟨zs, h1, h2, h3, h4⟩ := h
  exact ⟨zs, h1, h2, h3, (h4.below hb).more hb.size⟩
/-- Values that were drawn. -/
def AnyVs9 (B g : Nat) (w : World) (e : Ending) (w' : World) : Prop :=
  ∃ A n c L, e = .returned (.slice A n c) ∧ FO layV 26 w.heap.size w'.heap.size w' A n c L ∧ n ≤ 4 ∧ (∀ v ∈ L, SmV v) ∧ Left B g w w'
theorem AnyVs9.ret {B g : Nat} {w w' : World} {A : Option Addr} {n c : Nat} {L : List V} (h : FO layV 26 w.heap.size w'.heap.size w' A n c L) (hn : n ≤ 4) (hs : ∀ v ∈ L, SmV v) (hL : Left B g w w') : AnyVs9 B g w (.returned (.slice A n c)) w' := ⟨A, n, c, L, rfl, h, hn, hs, hL⟩
/-- Midway: i values are wanted still. -/
def Valuing9 (B g : Nat) (w : World) (i : Nat) (A : Option Addr) (n c : Nat) (wr : World) : Prop :=
  ∃ L, FO layV 26 w.heap.size wr.heap.size wr A n c L ∧ n + i ≤ 4 ∧ (∀ v ∈ L, SmV v) ∧ Left B g w wr
theorem Valuing9.next {B g : Nat} {w wr w1 w2 : World} {i n n' c' : Nat} {A' : Option Addr} {o : Obj} {hi : Nat} {L : List V} (hg : g < w.heap.size) (hn : n + (i + 1) ≤ 4) (hL : Left B g w wr) (hL1 : Left B g wr w1)
    (hO2 : FO layV 26 w.heap.size w2.heap.size w2 A' n' c' L) (hsm : ∀ v ∈ L, SmV v) (hS : Step w.heap.size hi (w1.alloc o) w2) (hn' : n' = n + 1)   : Valuing9 B g w i A' n' c' w2 := by
  have hs : w.heap.size ≤ w1.heap.size := Nat.le_trans hL.2.size hL1.2.size
  exact ⟨_, hO2, by omega, hsm, (hL.trans hL1).low (((Below.refl _ _).alloc hs o).trans (hS.below (Below.refl _ _) (Nat.le_refl _) (by simp; omega))) (Nat.le_refl _) hg⟩
theorem list_nil9 {L : List V} {n : Nat} (h : L.length = n) (hn : n = 0) : L = [] := List.eq_nil_of_length_eq_zero (by omega)
set_option maxRecDepth 100000 in
set_option maxHeartbeats 1000000 in
theorem l4List9 (B g : Nat) (w : World) (hc : Cur w B g) : Calls Try.prog 51 #[.pointer (some ⟨g, 0, none⟩)] w (AnyVs9 B g w) := by
  obtain ⟨i0, hi, hz0, hz1, hz2⟩ := info_parts infoV
  have hg := hc.lt
  have hc1 := Lib.hid (hc.alloc' (.cells #[] 26))
  have ht : Turn g w (w.alloc (.cells #[] 26)) := (Turn.refl _ _).alloc _
  have HT := Lib.hid ht
  have O1 := Lib.hid ((FO.none_ layV 26 w).more (hi' := (w.alloc (.cells #[] 26)).heap.size) (by simp) (Nat.le_refl _))
  clear hc ht
  go_enter Try.func51, Try.ntmps51
  go_wp2_with fail
  refine (l1Below B g 4 _ (by omega) (by omega) hc1.out).mono ?_
  rintro e w1 ⟨x, hx0, hx1, rfl, hL1⟩
  obtain ⟨m, rfl⟩ : ∃ m : Nat, x = m := ⟨x.toNat, by omega⟩
  have hst : Valuing9 B g w m (some ⟨w.heap.size, 0, none⟩) 0 0 w1 := by
    have h1 := O1.out.turn hL1.2 hg
    exact ⟨[], h1.more hL1.2.size (Nat.le_refl _), by omega, (fun v h => absurd h List.not_mem_nil), hL1.1, HT.out.trans hL1.2⟩
  have HST := Lib.hid hst
  clear hst hL1
  go_wp2_with fail
  go_loopw [3, 4] (fun sv iv wr => ∃ (A : Option Addr) (n c i : Nat), sv = .slice A n c ∧ iv = .int .i64 i ∧ i ≤ 4 ∧ Valuing9 B g w i A n c wr) (fun _ iv _ => (intOf iv).toNat)
  case atStart => exact ⟨_, _, _, m, rfl, rfl, by omega, HST.out⟩
  case round =>
    obtain ⟨A, n, c, i, rfl, rfl, him, hD⟩ := hrel
    obtain ⟨L, hO, hni, hsm, hL⟩ := hD
    have HO := Lib.hid hO
    have HL := Lib.hid hL
    have hn1 : n ≤ 4 := by omega
    have hs := hL.2.size
    clear hO hL
    by_cases hlt : 0 < i
    · obtain ⟨i, rfl⟩ : ∃ j, i = j + 1 := ⟨i - 1, by omega⟩
      go_wp2_with fail
      refine (l4Any9 B g _ HL.out.1).mono ?_
      rintro e w2 ⟨v, rfl, hv9, hL2⟩
      have HV9 : Hid (∀ x ∈ L ++ [v], SmV x) := Lib.hid (fun x hx => by
        rcases List.mem_append.1 hx with hx | hx
        · exact hsm x hx
        · rw [List.mem_singleton.1 hx]; exact hv9)
      have HL2 := Lib.hid hL2
      have HO1 := Lib.hid (HO.out.turn hL2.2 hg)
      have hs1 := hL2.2.size
      clear hL2
      go_wp2_with (at_builtin; refine wpList_append_fr _ layV rfl _ _ 24 rfl 26 i0 (.agg #[.int .i64 0, .int .i64 0]) 16 Try.underlying24 hi hz0 hz1 rfl hz2 w.heap.size wr.heap.size A n c _ rfl (HO1.out.alloc _) _ 1 1 [v] rfl (FR.one layV _ v 26) (by unfold maxLen; omega) (by omega) (by simp; omega) ?_; intro A2 c2 w3 hO2 hS2; have HO2 := Lib.hid hO2; have HS2 := Lib.hid hS2; clear hO2 hS2)
      have hN := Valuing9.next hg hni HL.out HL2.out HO2.out HV9.out HS2.out rfl
      clear HO2 HS2
      go_roundw
      case rel => exact ⟨A2, n + 1, c2, i, rfl, by go_num, by omega, hN⟩
      case measure => simp [intOf]
    · obtain rfl : i = 0 := by omega
      go_wp2_with fail
      go_ret
      exact AnyVs9.ret HO.out hn1 hsm HL.out
end Go.Proofs.Ytfgijebgnkikpaa
