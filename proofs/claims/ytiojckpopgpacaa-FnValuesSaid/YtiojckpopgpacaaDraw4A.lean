/- DrawAddInts. -/
import Derived.Test.YtiojckpopgpacaaDraw4L
namespace Go.Proofs.Ytiojckpopgpacaa
open Go.RowKit
theorem DrewVV.ret {w w3 : World} (k n k' n' : Int) {p q p' q' : Addr} {u v u' v' : Value} (hp : w.heap.size ≤ p.block) (hq : w.heap.size ≤ q.block) (hp' : w.heap.size ≤ p'.block) (hq' : w.heap.size ≤ q'.block) (h : Below w.heap.size w w3) :
    DrewVV w (.returned (.tuple #[.agg #[.int .i64 k, .int .i64 n], .agg #[.int .i64 k', .int .i64 n']])) ((((w3.setCell p u).setCell q v).setCell p' u').setCell q' v') :=
  ⟨⟨k, n⟩, ⟨k', n'⟩, rfl, (((h.setCell hp u).setCell hq v).setCell hp' u').setCell hq' v'⟩
set_option maxHeartbeats 1000000 in
theorem drawAdd (A : Option Addr) (n c : Nat) (w : World) (hC : Code w A n) (hn : n ≤ 1048576) : Calls Try.prog 13 #[.slice A n c] w (DrewVV w) := by
  have hA1 : Below w.heap.size w (w.alloc (.cells #[.int .i64 0, .int .i64 0] 25)) := (Below.refl w.heap.size w).alloc (Nat.le_refl _) _
  have hA2 : Below w.heap.size w ((w.alloc (.cells #[.int .i64 0, .int .i64 0] 25)).alloc (.cells #[.int .i64 0, .int .i64 0] 25)) := hA1.alloc hA1.size _
  have HC := Lib.hid (hC.low hA2)
  have z0 := Lib.hid ((Zb.new w #[.int .i64 0, .int .i64 0] 25 (Nat.le_refl _)).below ((Below.refl _ _).alloc (Nat.le_refl _) (.cells #[.int .i64 0, .int .i64 0] 25)))
  have y0 : Hid (Zb w.heap.size (w.heap.size + 1) [.int .i64 0, .int .i64 0] ((w.alloc (.cells #[.int .i64 0, .int .i64 0] 25)).alloc (.cells #[.int .i64 0, .int .i64 0] 25))) := by
    have h := Zb.new (B := w.heap.size) (w.alloc (.cells #[.int .i64 0, .int .i64 0] 25)) #[.int .i64 0, .int .i64 0] 25 (by simp)
    rw [World.size_alloc] at h
    exact Lib.hid h
  have HB0 := Lib.hid hA2
  clear hC hA1 hA2
  go_enter Try.func13, Try.ntmps13
  go_wp2_with fail
  refine (l1New A n c _ HC.out hn).mono ?_
  rintro e w1 ⟨g, rfl, hcur, hb1⟩
  have hgB := hcur.ge
  have hs1 := hb1.size
  have z1 := Lib.hid (z0.out.below hb1)
  have y1 := Lib.hid (y0.out.below hb1)
  have HCUR := Lib.hid hcur
  have HB1 := Lib.hid (HB0.out.trans (hb1.mono (by simp; omega)))
  have hne : w.heap.size ≠ g := by simp at hgB; omega
  have HNE := Lib.hid hne
  have hne' : w.heap.size + 1 ≠ g := by simp at hgB; omega
  have HNE' := Lib.hid hne'
  clear hcur hb1 z0 y0 HC HB0 hne hne'
  generalize hBB : ((w.alloc (Obj.cells #[.int .i64 0, .int .i64 0] 25)).alloc (Obj.cells #[.int .i64 0, .int .i64 0] 25)).heap.size = BB at *
  have hBw : w.heap.size ≤ BB := by simp at hBB; omega
  clear hBB
  go_wp2_with fail
  refine (l4Any BB g _ HCUR.out).mono ?_
  rintro e w2 ⟨v, rfl, hL2⟩
  have z2 := Lib.hid (z1.out.turn hL2.2 HNE.out)
  have y2 := Lib.hid (y1.out.turn hL2.2 HNE'.out)
  have hs2 := hL2.2.size
  have hg2 : g < w2.heap.size := hL2.1.lt
  have HC2 : Hid (Cur (w2.alloc (.cells #[.int .i64 v.kind, .int .i64 v.n] 25)).drew BB g) := Lib.hid (hL2.1.alloc' (.cells #[.int .i64 v.kind, .int .i64 v.n] 25))
  have HB2 := Lib.hid (HB1.out.trans ((hL2.below hgB hs1).mono hBw))
  have z3 := Lib.hid (z2.out.below ((Below.refl _ _).alloc (Nat.le_refl _) (.cells #[.int .i64 v.kind, .int .i64 v.n] 25))).drew
  have y3 := Lib.hid (y2.out.below ((Below.refl _ _).alloc (Nat.le_refl _) (.cells #[.int .i64 v.kind, .int .i64 v.n] 25))).drew
  have b3 := Lib.hid (Box.new w2 #[.int .i64 v.kind, .int .i64 v.n] 25).drew
  have k1 := Lib.hid b3.out.cells2
  have hN2 : w2.heap.size ≠ g := by omega
  have HN2 := Lib.hid hN2
  have hW2 : w.heap.size ≠ w2.heap.size := by have := z2.out.2.1.1; omega
  have HW2 := Lib.hid hW2
  have hW3 : w.heap.size + 1 ≠ w2.heap.size := by have := y2.out.2.1.1; omega
  have HW3 := Lib.hid hW3
  have HB3 := Lib.hid (HB2.out.alloc HB2.out.size (.cells #[.int .i64 v.kind, .int .i64 v.n] 25)).drew
  have hs3 : BB ≤ (w2.alloc (.cells #[.int .i64 v.kind, .int .i64 v.n] 25)).drew.heap.size := by simp; omega
  clear hL2 z1 z2 y1 y2 HCUR HB1 HB2 hW2 hN2 hW3
  go_wp2_with fail
  go_region_held3 (fun w' => w'.cell? ⟨w2.heap.size, 0, none⟩ = some (.int .i64 v.kind) ∧ w'.cell? ⟨w2.heap.size, 1, none⟩ = some (.int .i64 v.n))
    (first | with_reducible exact k1.out | with_reducible exact k2.out | with_reducible exact k3.out _ _ | with_reducible exact k4.out _ _ _ _)
    ((go_at_call 37; (with_reducible refine (l4Any BB g _ HC2.out).mono ?_); rintro e w4 ⟨u, rfl, hL4⟩
      have z4 := z3.out.turn hL4.2 HNE.out
      have y4 := y3.out.turn hL4.2 HNE'.out
      have b4 := b3.out.turn hL4.2 HN2.out
      have k2 := Lib.hid b4.cells2
      have k3 : Hid (∀ a b : Value, ((w4.setCell ⟨w.heap.size, 0, none⟩ a).setCell ⟨w.heap.size, 1, none⟩ b).cell? ⟨w2.heap.size, 0, none⟩ = some (.int .i64 v.kind) ∧ ((w4.setCell ⟨w.heap.size, 0, none⟩ a).setCell ⟨w.heap.size, 1, none⟩ b).cell? ⟨w2.heap.size, 1, none⟩ = some (.int .i64 v.n)) := Lib.hid fun a b => ((b4.far (i := 0) HW2.out a).far (i := 1) HW2.out b).cells2
      have k4 : Hid (∀ a b a' b' : Value, ((((w4.setCell ⟨w.heap.size, 0, none⟩ a).setCell ⟨w.heap.size, 1, none⟩ b).setCell ⟨w.heap.size + 1, 0, none⟩ a').setCell ⟨w.heap.size + 1, 1, none⟩ b').cell? ⟨w2.heap.size, 0, none⟩ = some (.int .i64 v.kind) ∧ ((((w4.setCell ⟨w.heap.size, 0, none⟩ a).setCell ⟨w.heap.size, 1, none⟩ b).setCell ⟨w.heap.size + 1, 0, none⟩ a').setCell ⟨w.heap.size + 1, 1, none⟩ b').cell? ⟨w2.heap.size, 1, none⟩ = some (.int .i64 v.n)) :=
        Lib.hid fun a b a' b' => ((((b4.far (i := 0) HW2.out a).far (i := 1) HW2.out b).far (i := 0) HW3.out a').far (i := 1) HW3.out b').cells2
      have HB4 := Lib.hid (HB3.out.trans ((hL4.below hgB hs3).mono hBw))
      obtain ⟨o1, o2, o3, o4⟩ := z4.two
      obtain ⟨t1, t2, t3, t4⟩ := y4.two
      have hwy : w.heap.size ≠ w.heap.size + 1 := by omega
      have q := (((z4.2.1.two (.int .i64 v.kind) (.int .i64 v.n)).far (g := w.heap.size + 1) (i := 0) (Ne.symm hwy) (.int .i64 u.kind)).far (g := w.heap.size + 1) (i := 1) (Ne.symm hwy) (.int .i64 u.n)).cells2
      have r := (((y4.2.1.far (g := w.heap.size) (i := 0) hwy (.int .i64 v.kind)).far (g := w.heap.size) (i := 1) hwy (.int .i64 v.n)).two (.int .i64 u.kind) (.int .i64 u.n)).cells2
      obtain ⟨q1, q2⟩ := q
      obtain ⟨r1, r2⟩ := r
      clear hL4 z4 y4 b4 hwy))
  all_goals (
    go_wp2_with fail
    refine bodyPost_ret (v := .tuple #[.agg #[.int .i64 v.kind, .int .i64 v.n], .agg #[.int .i64 u.kind, .int .i64 u.n]]) (by simp [results, Try.results13, go_sem, q1, q2, r1, r2]) rfl ?_
    exact DrewVV.ret _ _ _ _ (Nat.le_refl _) (Nat.le_refl _) (Nat.le_succ _) (Nat.le_succ _) HB4.out)
end Go.Proofs.Ytiojckpopgpacaa
