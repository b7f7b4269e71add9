/- Draws of values: l4Any, l4List. -/
import Derived.Test.YtiojckpopgpacaaTurn
import Derived.Test.YtiojckpopgpacaaSpecV
namespace Go.Proofs.Ytiojckpopgpacaa
open Go.RowKit
/-- A value was drawn. -/
def AnyV (B g : Nat) (w : World) (e : Ending) (w' : World) : Prop := ∃ v : V, e = .returned (.agg #[.int .i64 v.kind, .int .i64 v.n]) ∧ Left B g w w'
theorem AnyV.ret {B g : Nat} {w w3 : World} (k n : Int) {p : Addr} (hp : w.heap.size ≤ p.block) {q : Addr} (hq : w.heap.size ≤ q.block) {u v : Value} (hg : g < w.heap.size) (h : Left B g w w3) :
    AnyV B g w (.returned (.agg #[.int .i64 k, .int .i64 n])) ((w3.setCell p u).setCell q v) :=
  ⟨⟨k, n⟩, rfl, h.low (((Below.refl w.heap.size w3).setCell hp u).setCell hq v) (Nat.le_refl _) hg⟩
set_option maxHeartbeats 1000000 in
theorem l4Any (B g : Nat) (w : World) (hc : Cur w B g) : Calls Try.prog 37 #[.pointer (some ⟨g, 0, none⟩)] w (AnyV B g w) := by
  have hg := hc.lt
  have hne : w.heap.size ≠ g := by omega
  have HNE := Lib.hid hne
  have hc1 := Lib.hid (hc.alloc' (.cells #[.int .i64 0, .int .i64 0] 25))
  have z0 := Lib.hid (Zb.new w #[.int .i64 0, .int .i64 0] 25 (Nat.le_refl _))
  have HT := Lib.hid ((Turn.refl g w).alloc (.cells #[.int .i64 0, .int .i64 0] 25))
  clear hc hne
  go_enter Try.func37, Try.ntmps37
  go_wp2_with fail
  refine (l1Below B g 8 _ (by omega) (by omega) hc1.out).mono ?_
  rintro e w1 ⟨x, hx0, hx1, rfl, hL1⟩
  have z1 := Lib.hid (z0.out.turn hL1.2 HNE.out)
  have HL1 : Hid (Left B g w w1) := Lib.hid ⟨hL1.1, HT.out.trans hL1.2⟩
  clear z0 hc1 hL1 HT
  by_cases h0 : x = 0
  · subst h0
    go_wp2_with fail
    refine (l1Int_new B g [0, 1, 2, 5, -1] 5 (-1) 5 w1 rfl (by intro z hz; simp at hz; omega) (by omega) (by omega) HL1.out.1 _ (by simp) _).mono ?_
    rintro e w2 ⟨y, -, -, rfl, hL2⟩
    have z2 := Lib.hid (z1.out.turn hL2.2 HNE.out)
    have HL2 := Lib.hid (HL1.out.trans hL2)
    clear z1 HL1 hL2
    go_wp2_with fail
    refine (specRefV y _).mono ?_
    rintro e w3 ⟨rfl, hb⟩
    have z3 := z2.out.below hb
    have HL3 := Lib.hid (HL2.out.low hb HL2.out.2.size (by have := HL2.out.2.size; omega))
    obtain ⟨o1, o2, o3, o4⟩ := z3.two
    have q := z3.2.1.two (.int .i64 1) (.int .i64 y)
    have q1 := q.2 0 _ rfl
    have q2 := q.2 1 _ rfl
    clear hb q z3 HL2 z2
    go_wp2_with fail
    refine bodyPost_ret (v := .agg #[.int .i64 1, .int .i64 y]) (by simp [results, Try.results37, go_sem, q1, q2]) rfl ?_
    exact AnyV.ret _ _ (Nat.le_refl _) (Nat.le_refl _) hg HL3.out
  by_cases h1 : x = 1
  · subst h1
    go_wp2_with fail
    refine (specBroV _).mono ?_
    rintro e w3 ⟨rfl, hb⟩
    have z3 := z1.out.below hb
    have HL3 := Lib.hid (HL1.out.low hb HL1.out.2.size (by have := HL1.out.2.size; omega))
    obtain ⟨o1, o2, o3, o4⟩ := z3.two
    have q := z3.2.1.two (.int .i64 2) (.int .i64 0)
    have q1 := q.2 0 _ rfl
    have q2 := q.2 1 _ rfl
    clear hb q z3 HL1 z1
    go_wp2_with fail
    refine bodyPost_ret (v := .agg #[.int .i64 2, .int .i64 0]) (by simp [results, Try.results37, go_sem, q1, q2]) rfl ?_
    exact AnyV.ret _ _ (Nat.le_refl _) (Nat.le_refl _) hg HL3.out
  by_cases h2 : x = 2
  · subst h2
    go_wp2_with fail
    refine (l1Int_new B g [0, 1, 2, 3, -1] 5 (-1) 5 w1 rfl (by intro z hz; simp at hz; omega) (by omega) (by omega) HL1.out.1 _ (by simp) _).mono ?_
    rintro e w2 ⟨y, -, -, rfl, hL2⟩
    have z2 := Lib.hid (z1.out.turn hL2.2 HNE.out)
    have HL2 := Lib.hid (HL1.out.trans hL2)
    clear z1 HL1 hL2
    go_wp2_with fail
    refine (l1Int_new B g [0, -1, 999999, 1000000] 4 (-1) 1000000 w2 rfl (by intro z hz; simp at hz; omega) (by omega) (by omega) HL2.out.1 _ (by simp) _).mono ?_
    rintro e w3 ⟨z, -, -, rfl, hL3⟩
    have z3 := z2.out.turn hL3.2 HNE.out
    have HL3 := Lib.hid (HL2.out.trans hL3)
    obtain ⟨o1, o2, o3, o4⟩ := z3.two
    have q := z3.2.1.two (.int .i64 y) (.int .i64 z)
    have q1 := q.2 0 _ rfl
    have q2 := q.2 1 _ rfl
    clear q z3 HL2 z2 hL3
    go_wp2_with fail
    refine bodyPost_ret (v := .agg #[.int .i64 y, .int .i64 z]) (by simp [results, Try.results37, go_sem, q1, q2]) rfl ?_
    exact AnyV.ret _ _ (Nat.le_refl _) (Nat.le_refl _) hg HL3.out
  · go_wp2_with fail
    refine (l1Below B g 50 _ (by omega) (by omega) HL1.out.1).mono ?_
    rintro e w2 ⟨y, -, -, rfl, hL2⟩
    have z2 := Lib.hid (z1.out.turn hL2.2 HNE.out)
    have HL2 := Lib.hid (HL1.out.trans hL2)
    clear z1 HL1 hL2
    go_wp2_with fail
    refine (specIntV y _).mono ?_
    rintro e w3 ⟨rfl, hb⟩
    generalize intV y = v
    have z3 := z2.out.below hb
    have HL3 := Lib.hid (HL2.out.low hb HL2.out.2.size (by have := HL2.out.2.size; omega))
    obtain ⟨o1, o2, o3, o4⟩ := z3.two
    have q := z3.2.1.two (.int .i64 v.kind) (.int .i64 v.n)
    have q1 := q.2 0 _ rfl
    have q2 := q.2 1 _ rfl
    clear hb q z3 HL2 z2
    go_wp2_with fail
    refine bodyPost_ret (v := .agg #[.int .i64 v.kind, .int .i64 v.n]) (by simp [results, Try.results37, go_sem, q1, q2]) rfl ?_
    exact AnyV.ret _ _ (Nat.le_refl _) (Nat.le_refl _) hg HL3.out
end Go.Proofs.Ytiojckpopgpacaa
