/- The program's AddInts. -/
import Derived.Test.YtiojckpopgpacaaAddM
import Derived.Test.YtiojckpopgpacaaImplW
namespace Go.Proofs.Ytiojckpopgpacaa
open Go.RowKit
def MeanIs (a : V) (T : Nat) (x : Value) : Prop := ∀ w, Calls Try.prog 40 #[.agg #[.int .i64 a.kind, .int .i64 a.n]] w (GivesX (.iface T x) w)
def AddIs (T : Nat) (x : Value) (T' : Nat) (x' : Value) (t : Nat) (r : Value) : Prop := ∀ w, Calls Try.prog 39 #[.iface T x, .iface T' x'] w fun e w' => e = .returned (.iface t r) ∧ w = w'
theorem mean_num (a : V) (h : a.kind = 0) : MeanIs a 60 (.int .i64 a.n) := by
  obtain ⟨k, n⟩ := a
  subst h
  exact mean_int n
theorem mean_no (a : V) (h : ¬ a.kind = 0) : ∃ T x, T ≠ 60 ∧ MeanIs a T x := by
  obtain ⟨k, n⟩ := a
  by_cases h1 : k = 1
  · subst h1
    exact ⟨_, _, by decide, mean_ref n⟩
  by_cases h2 : k = 2
  · subst h2
    by_cases hn : n = 0
    · subst hn
      exact ⟨_, _, by decide, mean_bro⟩
    · exact ⟨_, _, by decide, fun w => mean_two n w (by simpa using hn)⟩
  · exact ⟨_, _, by decide, fun w => mean_unk k n w (by simpa using h) (by simpa using h1) (by simpa using h2)⟩
theorem add_no (a b : V) (h : ¬ (a.kind = 0 ∧ b.kind = 0 ∧ (0 ≤ a.n ∧ a.n ≤ 999999) ∧ (0 ≤ b.n ∧ b.n ≤ 999999))) :
    ∃ T x T' x', MeanIs a T x ∧ MeanIs b T' x' ∧ AddIs T x T' x' 63 (.agg #[]) := by
  by_cases ha : a.kind = 0
  · by_cases hb : b.kind = 0
    · refine ⟨_, _, _, _, mean_num a ha, mean_num b hb, ?_⟩
      by_cases h1 : 0 ≤ a.n ∧ a.n ≤ 999999
      · exact fun w => addM_nf _ _ w h1.1 h1.2 (fun h2 => h ⟨ha, hb, h1, h2⟩)
      · exact fun w => addM_fn _ _ w h1
    · obtain ⟨T, x, hT, hm⟩ := mean_no b hb
      exact ⟨_, _, _, _, mean_num a ha, hm, fun w => addM_no T _ x w hT⟩
  · obtain ⟨T, x, hT, hm⟩ := mean_no a ha
    by_cases hb : b.kind = 0
    · exact ⟨_, _, _, _, hm, mean_num b hb, fun w => addM_on T _ x w hT⟩
    · obtain ⟨T', x', hT', hm'⟩ := mean_no b hb
      exact ⟨_, _, _, _, hm, hm', fun w => addM_oo T T' x x' w hT hT'⟩
theorem add_yes (a b : V) (h : a.kind = 0 ∧ b.kind = 0 ∧ (0 ≤ a.n ∧ a.n ≤ 999999) ∧ (0 ≤ b.n ∧ b.n ≤ 999999)) :
    MeanIs a 60 (.int .i64 a.n) ∧ MeanIs b 60 (.int .i64 b.n) ∧ AddIs 60 (.int .i64 a.n) 60 (.int .i64 b.n) 60 (.int .i64 ((a.n + b.n) % 1000000)) :=
  ⟨mean_num a h.1, mean_num b h.2.1, fun w => addM_nn _ _ w h.2.2.1.1 h.2.2.1.2 h.2.2.2.1 h.2.2.2.2⟩
/-- What stands below B reads as before. -/
def Box3 (w : World) (k n k' n' : Int) (w' : World) : Prop := (w'.cell? ⟨w.heap.size, 0, none⟩ = some (.int .i64 k) ∧ w'.cell? ⟨w.heap.size, 1, none⟩ = some (.int .i64 n)) ∧ (w'.cell? ⟨w.heap.size + 1, 0, none⟩ = some (.int .i64 k') ∧ w'.cell? ⟨w.heap.size + 1, 1, none⟩ = some (.int .i64 n'))
def W3 (w : World) (k n k' n' : Int) : World := ((w.alloc (.cells #[.int .i64 k, .int .i64 n] 25)).alloc (.cells #[.int .i64 k', .int .i64 n'] 25)).alloc (.cells #[.int .i64 0, .int .i64 0] 25)
theorem W3.below (w : World) (k n k' n' : Int) : Below w.heap.size w (W3 w k n k' n') := (((Below.refl _ _).alloc (Nat.le_refl _) _).alloc (by simp) _).alloc (by simp; omega) _
theorem W3.size (w : World) (k n k' n' : Int) : (W3 w k n k' n').heap.size = w.heap.size + 3 := by simp [W3]
theorem W3.box (w : World) (k n k' n' : Int) : Box3 w k n k' n' (W3 w k n k' n') := by
  unfold Box3 W3
  refine ⟨⟨?_, ?_⟩, ?_, ?_⟩ <;> simp [go_sem]
theorem Box3.below {w w' : World} {k n k' n' : Int} (h : Below (w.heap.size + 3) (W3 w k n k' n') w') : Box3 w k n k' n' w' := by
  obtain ⟨⟨h1, h2⟩, h3, h4⟩ := W3.box w k n k' n'
  exact ⟨⟨cell_lowV h (by omega) h1, cell_lowV h (by omega) h2⟩, cell_lowV h (by omega) h3, cell_lowV h (by omega) h4⟩
theorem W3.out {w w' : World} {k n k' n' : Int} (h : Below (w.heap.size + 3) (W3 w k n k' n') w') :
    w'.cell? ⟨w.heap.size + 1 + 1, 0, none⟩ = some (.int .i64 0) ∧ w'.cell? ⟨w.heap.size + 1 + 1, 1, none⟩ = some (.int .i64 0) ∧ w'.frozen? ⟨w.heap.size + 1 + 1, 0, none⟩ = false ∧ w'.frozen? ⟨w.heap.size + 1 + 1, 1, none⟩ = false := by
  refine ⟨cell_lowV h (by omega) (by simp [W3, go_sem]), cell_lowV h (by omega) (by simp [W3, go_sem]), ?_, ?_⟩
  · exact (h.frozen (p := ⟨w.heap.size + 1 + 1, 0, none⟩) (by show w.heap.size + 1 + 1 < _; omega)).trans (by simp [W3, go_sem])
  · exact (h.frozen (p := ⟨w.heap.size + 1 + 1, 1, none⟩) (by show w.heap.size + 1 + 1 < _; omega)).trans (by simp [W3, go_sem])
theorem two_set {w : World} {g : Nat} {x y : Value} (h : w.cell? ⟨g, 0, none⟩ = some x) (h' : w.cell? ⟨g, 1, none⟩ = some y) (a b : Value) :
    (w.setCell ⟨g, 0, none⟩ a).cell? ⟨g, 0, none⟩ = some a ∧ ((w.setCell ⟨g, 0, none⟩ a).setCell ⟨g, 1, none⟩ b).cell? ⟨g, 1, none⟩ = some b := by
  have n1 : (⟨g, 1, none⟩ : Addr) ≠ ⟨g, 0, none⟩ := by intro e; injection e; omega
  refine ⟨?_, ?_⟩
  · exact World.cell?_setCell_same _ _ _ h
  · exact World.cell?_setCell_same _ _ _ (u := y) (by rw [World.cell?_setCell_other (h := Ne.symm n1)]; exact h')
theorem Box3.put {w w' : World} {k n k' n' : Int} (h : Box3 w k n k' n' w') (a b : Value) : Box3 w k n k' n' ((w'.setCell ⟨w.heap.size + 1 + 1, 0, none⟩ a).setCell ⟨w.heap.size + 1 + 1, 1, none⟩ b) := by
  obtain ⟨⟨h1, h2⟩, h3, h4⟩ := h
  refine ⟨⟨?_, ?_⟩, ?_, ?_⟩ <;> (rw [World.cell?_setCell_far _ _ _ _ (by intro e; have e' : w.heap.size + 1 + 1 = _ := e; simp only [] at e'; omega), World.cell?_setCell_far _ _ _ _ (by intro e; have e' : w.heap.size + 1 + 1 = _ := e; simp only [] at e'; omega)]; assumption)
set_option maxHeartbeats 1000000 in
theorem implAddV (a b : V) (w : World) : Calls Try.prog 14 #[.agg #[.int .i64 a.kind, .int .i64 a.n], .agg #[.int .i64 b.kind, .int .i64 b.n]] w (GivesV (addV a b) w) := by
  by_cases hc : a.kind = 0 ∧ b.kind = 0 ∧ (0 ≤ a.n ∧ a.n ≤ 999999) ∧ (0 ≤ b.n ∧ b.n ≤ 999999)
  · obtain ⟨h1, h2, h3⟩ := add_yes a b hc
    have hE := Lib.hid (addV_yes hc)
    obtain ⟨k, n⟩ := a
    obtain ⟨k', n'⟩ := b
    have H1 : Hid (∀ w, Calls Try.prog 40 #[.agg #[.int .i64 k, .int .i64 n]] w (GivesX (.iface 60 (.int .i64 n)) w)) := Lib.hid h1
    have H2 : Hid (∀ w, Calls Try.prog 40 #[.agg #[.int .i64 k', .int .i64 n']] w (GivesX (.iface 60 (.int .i64 n')) w)) := Lib.hid h2
    have H3 : Hid (∀ w, Calls Try.prog 39 #[.iface 60 (.int .i64 n), .iface 60 (.int .i64 n')] w fun e w' => e = .returned (.iface 60 (.int .i64 ((n + n') % 1000000))) ∧ w = w') := Lib.hid h3
    clear h1 h2 h3 hc
    have hs3 := Lib.hid (W3.size w k n k' n')
    have B0 : Hid (Below (w.heap.size + 3) (W3 w k n k' n') (W3 w k n k' n').drew) := Lib.hid ((Below.refl _ _).drew)
    go_enter Try.func14, Try.ntmps14
    go_wp2_with fail
    go_region_held3 (fun w' => (w'.cell? ⟨w.heap.size, 0, none⟩ = some (.int .i64 k) ∧ w'.cell? ⟨w.heap.size, 1, none⟩ = some (.int .i64 n)) ∧ (w'.cell? ⟨w.heap.size + 1, 0, none⟩ = some (.int .i64 k') ∧ w'.cell? ⟨w.heap.size + 1, 1, none⟩ = some (.int .i64 n')))
      (first | exact Box3.below B0.out | exact Box3.below B5.out | exact Box3.below B6.out | exact Box3.below B7.out | exact (Box3.below B7.out).put _ _)
      (first
      | (go_at_call 40; (with_reducible refine (H1.out _).mono ?_); rintro e w5 ⟨rfl, hb5⟩
         have B5 : Hid (Below (w.heap.size + 3) (W3 w k n k' n') w5) := Lib.hid (B0.out.trans (hb5.mono (by simp)))
         clear hb5)
      | (go_at_call 40; (with_reducible refine (H2.out _).mono ?_); rintro e w6 ⟨rfl, hb6⟩
         have B6 : Hid (Below (w.heap.size + 3) (W3 w k n k' n') w6) := Lib.hid (B5.out.trans (hb6.mono (by have h1 := B5.out.size; have h2 := hs3.out; omega)))
         clear hb6)
      | (go_at_call 39; (with_reducible refine (H3.out _).mono ?_); rintro e w' ⟨rfl, rfl⟩)
      | (go_at_call 45; (with_reducible refine (numVal ((n + n') % 1000000) _).mono ?_); rintro e w7 ⟨rfl, hb7⟩
         have B7 : Hid (Below (w.heap.size + 3) (W3 w k n k' n') w7) := Lib.hid (B6.out.trans (hb7.mono (by have h1 := B6.out.size; have h2 := hs3.out; omega)))
         obtain ⟨o1, o2, o3, o4⟩ := W3.out B7.out
         obtain ⟨q1, q2⟩ := two_set o1 o2 (.int .i64 0) (.int .i64 ((n + n') % 1000000))
         clear hb7))
    all_goals (
      go_wp2_with fail
      refine bodyPost_ret (v := .agg #[.int .i64 0, .int .i64 ((n + n') % 1000000)]) (by simp [results, Try.results14, go_sem, q1, q2]) rfl ?_
      rw [hE.out]
      refine GivesV.ret rfl rfl ?_
      exact ((W3.below w k n k' n').trans (B7.out.mono (by omega))).setCell (by simp; omega) _ |>.setCell (by simp; omega) _)
  · obtain ⟨T, x, T', x', h1, h2, h3⟩ := add_no a b hc
    have hE := Lib.hid (addV_no hc)
    obtain ⟨k, n⟩ := a
    obtain ⟨k', n'⟩ := b
    have H1 : Hid (∀ w, Calls Try.prog 40 #[.agg #[.int .i64 k, .int .i64 n]] w (GivesX (.iface T x) w)) := Lib.hid h1
    have H2 : Hid (∀ w, Calls Try.prog 40 #[.agg #[.int .i64 k', .int .i64 n']] w (GivesX (.iface T' x') w)) := Lib.hid h2
    have H3 : Hid (∀ w, Calls Try.prog 39 #[.iface T x, .iface T' x'] w fun e w' => e = .returned (.iface 63 (.agg #[])) ∧ w = w') := Lib.hid h3
    clear h1 h2 h3 hc
    have hs3 := Lib.hid (W3.size w k n k' n')
    have B0 : Hid (Below (w.heap.size + 3) (W3 w k n k' n') (W3 w k n k' n').drew) := Lib.hid ((Below.refl _ _).drew)
    go_enter Try.func14, Try.ntmps14
    go_wp2_with fail
    go_region_held3 (fun w' => (w'.cell? ⟨w.heap.size, 0, none⟩ = some (.int .i64 k) ∧ w'.cell? ⟨w.heap.size, 1, none⟩ = some (.int .i64 n)) ∧ (w'.cell? ⟨w.heap.size + 1, 0, none⟩ = some (.int .i64 k') ∧ w'.cell? ⟨w.heap.size + 1, 1, none⟩ = some (.int .i64 n')))
      (first | exact Box3.below B0.out | exact Box3.below B5.out | exact Box3.below B6.out | exact Box3.below B7.out | exact (Box3.below B7.out).put _ _)
      (first
      | (go_at_call 40; (with_reducible refine (H1.out _).mono ?_); rintro e w5 ⟨rfl, hb5⟩
         have B5 : Hid (Below (w.heap.size + 3) (W3 w k n k' n') w5) := Lib.hid (B0.out.trans (hb5.mono (by simp)))
         clear hb5)
      | (go_at_call 40; (with_reducible refine (H2.out _).mono ?_); rintro e w6 ⟨rfl, hb6⟩
         have B6 : Hid (Below (w.heap.size + 3) (W3 w k n k' n') w6) := Lib.hid (B5.out.trans (hb6.mono (by have h1 := B5.out.size; have h2 := hs3.out; omega)))
         clear hb6)
      | (go_at_call 39; (with_reducible refine (H3.out _).mono ?_); rintro e w' ⟨rfl, rfl⟩)
      | (go_at_call 49; (with_reducible refine (broVal _).mono ?_); rintro e w7 ⟨rfl, hb7⟩
         have B7 : Hid (Below (w.heap.size + 3) (W3 w k n k' n') w7) := Lib.hid (B6.out.trans (hb7.mono (by have h1 := B6.out.size; have h2 := hs3.out; omega)))
         obtain ⟨o1, o2, o3, o4⟩ := W3.out B7.out
         obtain ⟨q1, q2⟩ := two_set o1 o2 (.int .i64 2) (.int .i64 (0))
         clear hb7))
    all_goals (
      go_wp2_with fail
      refine bodyPost_ret (v := .agg #[.int .i64 2, .int .i64 0]) (by simp [results, Try.results14, go_sem, q1, q2]) rfl ?_
      rw [hE.out]
      refine GivesV.ret rfl rfl ?_
      exact ((W3.below w k n k' n').trans (B7.out.mono (by omega))).setCell (by simp; omega) _ |>.setCell (by simp; omega) _)
end Go.Proofs.Ytiojckpopgpacaa
