/- Draws of lists of values; the draws of stage 4's law. -/
import Derived.Test.YtiojckpopgpacaaDraw4
import Derived.Test.YtiojckpopgpacaaOpen
import Derived.LoopTactic
import Derived.Deep.RegionHeld3
namespace Go.Proofs.Ytiojckpopgpacaa
open Go.RowKit
theorem Code.low {w w' : World} {A : Option Addr} {n : Nat} (h : Code w A n) (hb : Below w.heap.size w w') : Code w' A n := by
  obtain ⟨zs, h1, h2, h3, h4⟩ := h
  exact ⟨zs, h1, h2, h3, (h4.below hb).more hb.size⟩
/-- Values that were drawn. -/
def AnyVs (B g : Nat) (w : World) (e : Ending) (w' : World) : Prop :=
  ∃ A n c L, e = .returned (.slice A n c) ∧ FO layV 25 w.heap.size w'.heap.size w' A n c L ∧ n ≤ 4 ∧ Left B g w w'
theorem AnyVs.ret {B g : Nat} {w w' : World} {A : Option Addr} {n c : Nat} {L : List V} (h : FO layV 25 w.heap.size w'.heap.size w' A n c L) (hn : n ≤ 4) (hL : Left B g w w') : AnyVs B g w (.returned (.slice A n c)) w' := ⟨A, n, c, L, rfl, h, hn, hL⟩
/-- Midway: i values are wanted still. -/
def Valuing (B g : Nat) (w : World) (i : Nat) (A : Option Addr) (n c : Nat) (wr : World) : Prop :=
  ∃ L, FO layV 25 w.heap.size wr.heap.size wr A n c L ∧ n + i ≤ 4 ∧ Left B g w wr
theorem Valuing.next {B g : Nat} {w wr w1 w2 : World} {i n n' c' : Nat} {A' : Option Addr} {o : Obj} {hi : Nat} {L : List V} (hg : g < w.heap.size) (hn : n + (i + 1) ≤ 4) (hL : Left B g w wr) (hL1 : Left B g wr w1)
    (hO2 : FO layV 25 w.heap.size w2.heap.size w2 A' n' c' L) (hS : Step w.heap.size hi (w1.alloc o) w2) (hn' : n' = n + 1) : Valuing B g w i A' n' c' w2 := by
  have hs : w.heap.size ≤ w1.heap.size := Nat.le_trans hL.2.size hL1.2.size
  exact ⟨_, hO2, by omega, (hL.trans hL1).low (((Below.refl _ _).alloc hs o).trans (hS.below (Below.refl _ _) (Nat.le_refl _) (by simp; omega))) (Nat.le_refl _) hg⟩
theorem list_nil {L : List V} {n : Nat} (h : L.length = n) (hn : n = 0) : L = [] := List.eq_nil_of_length_eq_zero (by omega)
set_option maxRecDepth 100000 in
set_option maxHeartbeats 1000000 in
theorem l4List (B g : Nat) (w : World) (hc : Cur w B g) : Calls Try.prog 41 #[.pointer (some ⟨g, 0, none⟩)] w (AnyVs B g w) := by
  obtain ⟨i0, hi, hz0, hz1, hz2⟩ := info_parts infoV
  have hg := hc.lt
  have hc1 := Lib.hid (hc.alloc' (.cells #[] 25))
  have ht : Turn g w (w.alloc (.cells #[] 25)) := (Turn.refl _ _).alloc _
  have HT := Lib.hid ht
  have O1 := Lib.hid ((FO.none_ layV 25 w).more (hi' := (w.alloc (.cells #[] 25)).heap.size) (by simp) (Nat.le_refl _))
  clear hc ht
  go_enter Try.func41, Try.ntmps41
  go_wp2_with fail
  refine (l1Below B g 4 _ (by omega) (by omega) hc1.out).mono ?_
  rintro e w1 ⟨x, hx0, hx1, rfl, hL1⟩
  obtain ⟨m, rfl⟩ : ∃ m : Nat, x = m := ⟨x.toNat, by omega⟩
  have hst : Valuing B g w m (some ⟨w.heap.size, 0, none⟩) 0 0 w1 := by
    have h1 := O1.out.turn hL1.2 hg
    exact ⟨[], h1.more hL1.2.size (Nat.le_refl _), by omega, hL1.1, HT.out.trans hL1.2⟩
  have HST := Lib.hid hst
  clear hst hL1
  go_wp2_with fail
  go_loopw [3, 4] (fun sv iv wr => ∃ (A : Option Addr) (n c i : Nat), sv = .slice A n c ∧ iv = .int .i64 i ∧ i ≤ 4 ∧ Valuing B g w i A n c wr) (fun _ iv _ => (intOf iv).toNat)
  case atStart => exact ⟨_, _, _, m, rfl, rfl, by omega, HST.out⟩
  case round =>
    obtain ⟨A, n, c, i, rfl, rfl, him, hD⟩ := hrel
    obtain ⟨L, hO, hni, hL⟩ := hD
    have HO := Lib.hid hO
    have HL := Lib.hid hL
    have hn1 : n ≤ 4 := by omega
    have hs := hL.2.size
    clear hO hL
    by_cases hlt : 0 < i
    · obtain ⟨i, rfl⟩ : ∃ j, i = j + 1 := ⟨i - 1, by omega⟩
      go_wp2_with fail
      refine (l4Any B g _ HL.out.1).mono ?_
      rintro e w2 ⟨v, rfl, hL2⟩
      have HL2 := Lib.hid hL2
      have HO1 := Lib.hid (HO.out.turn hL2.2 hg)
      have hs1 := hL2.2.size
      clear hL2
      go_wp2_with (at_builtin; refine wpList_append_fr _ layV rfl _ _ 31 rfl 25 i0 (.agg #[.int .i64 0, .int .i64 0]) 16 Try.underlying31 hi hz0 hz1 rfl hz2 w.heap.size wr.heap.size A n c _ rfl (HO1.out.alloc _) _ 1 1 [v] rfl (FR.one layV _ v 25) (by unfold maxLen; omega) (by omega) (by simp; omega) ?_; intro A2 c2 w3 hO2 hS2; have HO2 := Lib.hid hO2; have HS2 := Lib.hid hS2; clear hO2 hS2)
      have hN := Valuing.next hg hni HL.out HL2.out HO2.out HS2.out rfl
      clear HO2 HS2
      go_roundw
      case rel => exact ⟨A2, n + 1, c2, i, rfl, by go_num, by omega, hN⟩
      case measure => simp [intOf]
    · obtain rfl : i = 0 := by omega
      go_wp2_with fail
      go_ret
      exact AnyVs.ret HO.out hn1 HL.out
/-- A list and a number were drawn. -/
def DrewLN (w : World) (e : Ending) (w' : World) : Prop :=
  ∃ A n c L k, e = .returned (.tuple #[.slice A n c, .int .i64 k]) ∧ FR layV w' A n L ∧ n ≤ 4 ∧ Below w.heap.size w w'
theorem DrewLN.ret {w w' : World} {k : Int} {A : Option Addr} {n c : Nat} {L : List V} (h : FR layV w' A n L) (hn : n ≤ 4) (hB : Below w.heap.size w w') :
    DrewLN w (.returned (.tuple #[.slice A n c, .int .i64 k])) w' := ⟨A, n, c, L, k, rfl, h, hn, hB⟩
set_option maxHeartbeats 1000000 in
theorem drawAre (A : Option Addr) (n c : Nat) (w : World) (hC : Code w A n) (hn : n ≤ 1048576) : Calls Try.prog 15 #[.slice A n c] w (DrewLN w) := by
  have HC := Lib.hid hC
  clear hC
  go_enter Try.func15, Try.ntmps15
  go_wp2_with fail
  refine (l1New A n c _ HC.out hn).mono ?_
  rintro e w1 ⟨g, rfl, hcur, hb1⟩
  have hgB := hcur.ge
  have hs1 := hb1.size
  have HCUR := Lib.hid hcur
  have HB1 := Lib.hid hb1
  clear hcur hb1
  go_wp2_with fail
  refine (l4List w.heap.size g _ HCUR.out).mono ?_
  rintro e w2 ⟨A2, n2, c2, L2, rfl, hO2, hn2, hL2⟩
  have HL2 := Lib.hid hL2
  have HO2 := Lib.hid hO2
  have hg2 : g < w1.heap.size := HCUR.out.lt
  clear hL2 hO2
  go_wp2_with fail
  refine (l1Below w.heap.size g 7 _ (by omega) (by omega) HL2.out.1).mono ?_
  rintro e w3 ⟨x, hx0, hx1, rfl, hL3⟩
  have HO3 := Lib.hid ((HO2.out.turn hL3.2 hg2).fr)
  have HL3 := Lib.hid (HL2.out.trans hL3)
  clear hL3 HO2 HL2
  go_wp2_with fail
  go_ret2
  exact DrewLN.ret HO3.out hn2 (HB1.out.trans (HL3.out.below hgB hs1))
/-- A value and a number were drawn. -/
def DrewVN (w : World) (e : Ending) (w' : World) : Prop :=
  ∃ (v : V) (k : Int), e = .returned (.tuple #[.agg #[.int .i64 v.kind, .int .i64 v.n], .int .i64 k]) ∧ Below w.heap.size w w'
/-- Two values were drawn. -/
def DrewVV (w : World) (e : Ending) (w' : World) : Prop :=
  ∃ (v u : V), e = .returned (.tuple #[.agg #[.int .i64 v.kind, .int .i64 v.n], .agg #[.int .i64 u.kind, .int .i64 u.n]]) ∧ Below w.heap.size w w'
theorem DrewVN.ret {w w3 : World} (k n : Int) {m : Int} {p q : Addr} {u v : Value} (hp : w.heap.size ≤ p.block) (hq : w.heap.size ≤ q.block) (h : Below w.heap.size w w3) :
    DrewVN w (.returned (.tuple #[.agg #[.int .i64 k, .int .i64 n], .int .i64 m])) ((w3.setCell p u).setCell q v) := ⟨⟨k, n⟩, m, rfl, (h.setCell hp u).setCell hq v⟩
set_option maxHeartbeats 1000000 in
theorem drawVal (A : Option Addr) (n c : Nat) (w : World) (hC : Code w A n) (hn : n ≤ 1048576) : Calls Try.prog 12 #[.slice A n c] w (DrewVN w) := by
  have HC := Lib.hid (hC.low ((Below.refl _ _).alloc (Nat.le_refl _) (.cells #[.int .i64 0, .int .i64 0] 25)))
  have HB0 := Lib.hid ((Below.refl w.heap.size w).alloc (Nat.le_refl _) (.cells #[.int .i64 0, .int .i64 0] 25))
  have z0 := Lib.hid (Zb.new w #[.int .i64 0, .int .i64 0] 25 (Nat.le_refl _))
  clear hC
  go_enter Try.func12, Try.ntmps12
  go_wp2_with fail
  refine (l1New A n c _ HC.out hn).mono ?_
  rintro e w1 ⟨g, rfl, hcur, hb1⟩
  have hgB := hcur.ge
  have hs1 := hb1.size
  have z1 := Lib.hid (z0.out.below hb1)
  have HCUR := Lib.hid hcur
  have HB1 := Lib.hid (HB0.out.trans (hb1.mono (by simp)))
  have hne : w.heap.size ≠ g := by simp at hgB; omega
  have HNE := Lib.hid hne
  clear hcur hb1 z0 HC HB0 hne
  generalize hBB : (w.alloc (Obj.cells #[.int .i64 0, .int .i64 0] 25)).heap.size = BB at *
  have hBw : w.heap.size ≤ BB := by simp at hBB; omega
  clear hBB
  go_wp2_with fail
  refine (l4Any BB g _ HCUR.out).mono ?_
  rintro e w2 ⟨v, rfl, hL2⟩
  have z2 := Lib.hid (z1.out.turn hL2.2 HNE.out)
  have hs2 := hL2.2.size
  have hg2 : g < w2.heap.size := hL2.1.lt
  have HC2 : Hid (Cur (w2.alloc (.cells #[.int .i64 v.kind, .int .i64 v.n] 25)).drew BB g) := Lib.hid (hL2.1.alloc' (.cells #[.int .i64 v.kind, .int .i64 v.n] 25))
  have HB2 := Lib.hid (HB1.out.trans ((hL2.below hgB hs1).mono hBw))
  have z3 := Lib.hid (z2.out.below ((Below.refl _ _).alloc (Nat.le_refl _) (.cells #[.int .i64 v.kind, .int .i64 v.n] 25))).drew
  have b3 := Lib.hid (Box.new w2 #[.int .i64 v.kind, .int .i64 v.n] 25).drew
  have k1 := Lib.hid b3.out.cells2
  have hN2 : w2.heap.size ≠ g := by omega
  have HN2 := Lib.hid hN2
  have hW2 : w.heap.size ≠ w2.heap.size := by have := z2.out.2.1.1; omega
  have HW2 := Lib.hid hW2
  have HB3 := Lib.hid (HB2.out.alloc HB2.out.size (.cells #[.int .i64 v.kind, .int .i64 v.n] 25)).drew
  have hs3 : BB ≤ (w2.alloc (.cells #[.int .i64 v.kind, .int .i64 v.n] 25)).drew.heap.size := by simp; omega
  clear hL2 z1 z2 HCUR HB1 HB2 hW2 hN2
  go_wp2_with fail
  go_region_held3 (fun w' => w'.cell? ⟨w2.heap.size, 0, none⟩ = some (.int .i64 v.kind) ∧ w'.cell? ⟨w2.heap.size, 1, none⟩ = some (.int .i64 v.n))
    (first | exact k1.out | exact k2.out | exact k3.out _ _)
    ((go_at_call 38; (with_reducible refine (l1Below BB g 7 _ (by omega) (by omega) HC2.out).mono ?_); rintro e w4 ⟨x, hx0, hx1, rfl, hL4⟩
      have z4 := z3.out.turn hL4.2 HNE.out
      have b4 := b3.out.turn hL4.2 HN2.out
      have k2 := Lib.hid b4.cells2
      have k3 : Hid (∀ a b : Value, ((w4.setCell ⟨w.heap.size, 0, none⟩ a).setCell ⟨w.heap.size, 1, none⟩ b).cell? ⟨w2.heap.size, 0, none⟩ = some (.int .i64 v.kind) ∧ ((w4.setCell ⟨w.heap.size, 0, none⟩ a).setCell ⟨w.heap.size, 1, none⟩ b).cell? ⟨w2.heap.size, 1, none⟩ = some (.int .i64 v.n)) := Lib.hid fun a b => ((b4.far (i := 0) HW2.out a).far (i := 1) HW2.out b).cells2
      have HB4 := Lib.hid (HB3.out.trans ((hL4.below hgB hs3).mono hBw))
      obtain ⟨o1, o2, o3, o4⟩ := z4.two
      have q := z4.2.1.two (.int .i64 v.kind) (.int .i64 v.n)
      have q1 := q.2 0 _ rfl
      have q2 := q.2 1 _ rfl
      clear hL4 z4 b4 q))
  all_goals (
    go_wp2_with fail
    refine bodyPost_ret (v := .tuple #[.agg #[.int .i64 v.kind, .int .i64 v.n], .int .i64 x]) (by simp [results, Try.results12, go_sem, q1, q2]) rfl ?_
    exact DrewVN.ret _ _ (Nat.le_refl _) (Nat.le_refl _) HB4.out)
end Go.Proofs.Ytiojckpopgpacaa
