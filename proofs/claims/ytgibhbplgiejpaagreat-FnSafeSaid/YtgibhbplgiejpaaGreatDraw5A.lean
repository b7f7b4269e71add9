/- Draws of instructions: l5Any, DrawIsInstr. -/
import Derived.Test.YtgibhbplgiejpaaGreatDraw5
import Derived.Test.YtgibhbplgiejpaaGreatBase
namespace Go.Proofs.YtgibhbplgiejpaaGreat
open Go.RowKit
set_option linter.unusedVariables false
set_option linter.unusedSimpArgs false
set_option maxRecDepth 100000 in
set_option maxHeartbeats 4000000 in
theorem l5Any (B g : Nat) (w : World) (hc : Cur w B g) : Calls Tryz.prog 27 #[.pointer (some ⟨g, 0, none⟩)] w (AnyI B g w) := by
  have hg := hc.lt
  have HNE : Hid (w.heap.size ≠ g) := Lib.hid (by omega)
  have Z : Hid (Zb w.heap.size w.heap.size [.int .i64 0, .int .i64 0, .int .i64 0, .int .i64 0, .int .i64 0, .string ⟨#[]⟩] (w.alloc (.cells #[.int .i64 0, .int .i64 0, .int .i64 0, .int .i64 0, .int .i64 0, .string ⟨#[]⟩] 32))) := Lib.hid (Zb.new w #[.int .i64 0, .int .i64 0, .int .i64 0, .int .i64 0, .int .i64 0, .string ⟨#[]⟩] 32 (Nat.le_refl _))
  have HL : Hid (Left B g w (w.alloc (.cells #[.int .i64 0, .int .i64 0, .int .i64 0, .int .i64 0, .int .i64 0, .string ⟨#[]⟩] 32))) := Lib.hid ⟨hc.alloc' _, (Turn.refl g w).alloc _⟩
  obtain ⟨o0, o1, o2, o3, o4, o5, f0, f1, f2, f3, f4, f5⟩ := Z.out.cells6
  clear hc
  go_enter Tryz.func27, Tryz.ntmps27
  go_wp2_with fail
  refine (l5Instr B g _ HL.out.cur).mono ?_
  rintro e w1 ⟨⟨op, a, b, c, d, nm⟩, ⟨hnm, h64⟩, rfl, hL⟩
  have hnm' : nm.size ≤ 8 := hnm
  obtain ⟨⟨i0, i1⟩, ⟨i2, i3⟩, ⟨i4, i5⟩, ⟨i6, i7⟩, ⟨i8, i9⟩⟩ : (-9223372036854775808 ≤ op ∧ op ≤ 9223372036854775807) ∧ (-9223372036854775808 ≤ a ∧ a ≤ 9223372036854775807) ∧ (-9223372036854775808 ≤ b ∧ b ≤ 9223372036854775807) ∧ (-9223372036854775808 ≤ c ∧ c ≤ 9223372036854775807) ∧ (-9223372036854775808 ≤ d ∧ d ≤ 9223372036854775807) := h64
  clear hnm
  replace Z := Lib.hid ((Z.out.turn hL.2 HNE.out).below ((Below.refl _ _).alloc (Nat.le_refl _) (.cells #[.int .i64 op, .int .i64 a, .int .i64 b, .int .i64 c, .int .i64 d, .string nm] 32)))
  have hw1 := HL.out.2.size
  have hw2 := hL.2.size
  have hg1 := hL.1.lt
  replace HL : Hid (Left B g w (w1.alloc (.cells #[.int .i64 op, .int .i64 a, .int .i64 b, .int .i64 c, .int .i64 d, .string nm] 32))) := Lib.hid ((HL.out.trans hL).trans ⟨hL.1.alloc' _, (Turn.refl g w1).alloc _⟩)
  have Y : Hid (Zb w.heap.size w1.heap.size [.int .i64 op, .int .i64 a, .int .i64 b, .int .i64 c, .int .i64 d, .string nm] (w1.alloc (.cells #[.int .i64 op, .int .i64 a, .int .i64 b, .int .i64 c, .int .i64 d, .string nm] 32))) := Lib.hid (Zb.new w1 #[.int .i64 op, .int .i64 a, .int .i64 b, .int .i64 c, .int .i64 d, .string nm] 32 (by omega))
  have hYw : w.heap.size ≤ w1.heap.size := by omega
  have HNY : Hid (w1.heap.size ≠ g) := Lib.hid (by omega)
  have hlt : w.heap.size < w1.heap.size := by simp at hw2; omega
  have hne1 : ¬ w.heap.size = w1.heap.size := by omega
  have hne2 : ¬ w1.heap.size = w.heap.size := by omega
  clear hL hw1 hw2 hg1 o0 o1 o2 o3 o4 o5 f0 f1 f2 f3 f4 f5
  obtain ⟨o0, o1, o2, o3, o4, o5, f0, f1, f2, f3, f4, f5⟩ := Z.out.cells6
  obtain ⟨p0, p1, p2, p3, p4, p5, q0, q1, q2, q3, q4, q5⟩ := Y.out.cells6
  go_wp2_with fail
  (with_reducible refine (l1Below B g _ _ (by omega) (by omega) HL.out.cur).mono ?_); rintro e w2 ⟨x, hx0, hx1, rfl, hL⟩; replace Z := Lib.hid (Z.out.turn hL.2 HNE.out); replace Y := Lib.hid (Y.out.turn hL.2 HNY.out); replace HL := Lib.hid (HL.out.trans hL); clear o0 o1 o2 o3 o4 o5 f0 f1 f2 f3 f4 f5 p0 p1 p2 p3 p4 p5 q0 q1 q2 q3 q4 q5; obtain ⟨o0, o1, o2, o3, o4, o5, f0, f1, f2, f3, f4, f5⟩ := Z.out.cells6; obtain ⟨p0, p1, p2, p3, p4, p5, q0, q1, q2, q3, q4, q5⟩ := Y.out.cells6; clear hL
  have hcase : x = 0 ∨ x = 1 ∨ x = 2 ∨ x = 3 ∨ x = 4 ∨ x = 5 ∨ 6 ≤ x := by omega
  rcases hcase with rfl | rfl | rfl | rfl | rfl | rfl | h6
  · go_wp2_with fail
    refine (l1Int_new B g [-1, 7, 8, 3] 4 (-1) 8 _ rfl (by intro z hz; simp at hz; omega) (by omega) (by omega) HL.out.cur _ rfl _).mono ?_; rintro e w3 ⟨y, hy0, hy1, rfl, hL⟩; replace Z := Lib.hid (Z.out.turn hL.2 HNE.out); replace Y := Lib.hid (Y.out.turn hL.2 HNY.out); replace HL := Lib.hid (HL.out.trans hL); clear o0 o1 o2 o3 o4 o5 f0 f1 f2 f3 f4 f5 p0 p1 p2 p3 p4 p5 q0 q1 q2 q3 q4 q5; obtain ⟨o0, o1, o2, o3, o4, o5, f0, f1, f2, f3, f4, f5⟩ := Z.out.cells6; obtain ⟨p0, p1, p2, p3, p4, p5, q0, q1, q2, q3, q4, q5⟩ := Y.out.cells6; clear hL
    go_wp2_with fail
    refine bodyPost_ret (by simp [results, Tryz.results27, go_sem, o0, o1, o2, o3, o4, o5, p0, p1, p2, p3, p4, p5, hne1, hne2]; try rfl) rfl ?_
    exact AnyI.ret (by first | omega | decide) (by omega) (by omega) (by omega) (by omega) (by omega) (HL.out.low (lo := w.heap.size) (by go_grown) (Nat.le_refl _) hg)
  · go_wp2_with fail
    refine (l1Int_new B g [-1, 0, 2, 12, 13, 999999, 1000000] 7 (-1) 1000000 _ rfl (by intro z hz; simp at hz; omega) (by omega) (by omega) HL.out.cur _ rfl _).mono ?_; rintro e w3 ⟨y, hy0, hy1, rfl, hL⟩; replace Z := Lib.hid (Z.out.turn hL.2 HNE.out); replace Y := Lib.hid (Y.out.turn hL.2 HNY.out); replace HL := Lib.hid (HL.out.trans hL); clear o0 o1 o2 o3 o4 o5 f0 f1 f2 f3 f4 f5 p0 p1 p2 p3 p4 p5 q0 q1 q2 q3 q4 q5; obtain ⟨o0, o1, o2, o3, o4, o5, f0, f1, f2, f3, f4, f5⟩ := Z.out.cells6; obtain ⟨p0, p1, p2, p3, p4, p5, q0, q1, q2, q3, q4, q5⟩ := Y.out.cells6; clear hL
    go_wp2_with fail
    refine bodyPost_ret (by simp [results, Tryz.results27, go_sem, o0, o1, o2, o3, o4, o5, p0, p1, p2, p3, p4, p5, hne1, hne2]; try rfl) rfl ?_
    exact AnyI.ret (by first | omega | decide) (by omega) (by omega) (by omega) (by omega) (by omega) (HL.out.low (lo := w.heap.size) (by go_grown) (Nat.le_refl _) hg)
  · go_wp2_with fail
    refine (l1Int_new B g [-1, 0, 8] 3 (-1) 8 _ rfl (by intro z hz; simp at hz; omega) (by omega) (by omega) HL.out.cur _ rfl _).mono ?_; rintro e w3 ⟨y, hy0, hy1, rfl, hL⟩; replace Z := Lib.hid (Z.out.turn hL.2 HNE.out); replace Y := Lib.hid (Y.out.turn hL.2 HNY.out); replace HL := Lib.hid (HL.out.trans hL); clear o0 o1 o2 o3 o4 o5 f0 f1 f2 f3 f4 f5 p0 p1 p2 p3 p4 p5 q0 q1 q2 q3 q4 q5; obtain ⟨o0, o1, o2, o3, o4, o5, f0, f1, f2, f3, f4, f5⟩ := Z.out.cells6; obtain ⟨p0, p1, p2, p3, p4, p5, q0, q1, q2, q3, q4, q5⟩ := Y.out.cells6; clear hL
    go_wp2_with fail
    refine bodyPost_ret (by simp [results, Tryz.results27, go_sem, o0, o1, o2, o3, o4, o5, p0, p1, p2, p3, p4, p5, hne1, hne2]; try rfl) rfl ?_
    exact AnyI.ret (by first | omega | decide) (by omega) (by omega) (by omega) (by omega) (by omega) (HL.out.low (lo := w.heap.size) (by go_grown) (Nat.le_refl _) hg)
  · go_wp2_with fail
    refine (l1Int_new B g [-2, -1, 0, 7] 4 (-2) 7 _ rfl (by intro z hz; simp at hz; omega) (by omega) (by omega) HL.out.cur _ rfl _).mono ?_; rintro e w3 ⟨y, hy0, hy1, rfl, hL⟩; replace Z := Lib.hid (Z.out.turn hL.2 HNE.out); replace Y := Lib.hid (Y.out.turn hL.2 HNY.out); replace HL := Lib.hid (HL.out.trans hL); clear o0 o1 o2 o3 o4 o5 f0 f1 f2 f3 f4 f5 p0 p1 p2 p3 p4 p5 q0 q1 q2 q3 q4 q5; obtain ⟨o0, o1, o2, o3, o4, o5, f0, f1, f2, f3, f4, f5⟩ := Z.out.cells6; obtain ⟨p0, p1, p2, p3, p4, p5, q0, q1, q2, q3, q4, q5⟩ := Y.out.cells6; clear hL
    go_wp2_with fail
    refine bodyPost_ret (by simp [results, Tryz.results27, go_sem, o0, o1, o2, o3, o4, o5, p0, p1, p2, p3, p4, p5, hne1, hne2]; try rfl) rfl ?_
    exact AnyI.ret (by first | omega | decide) (by omega) (by omega) (by omega) (by omega) (by omega) (HL.out.low (lo := w.heap.size) (by go_grown) (Nat.le_refl _) hg)
  · go_wp2_with fail
    refine (l1Str_new B g [⟨#[]⟩, ⟨#[97, 98, 99, 100, 101, 102]⟩, ⟨#[97, 98, 99, 100, 101, 102, 103]⟩, ⟨#[65]⟩, ⟨#[97, 49]⟩] 5 7 _ rfl (by decide) (by omega) (by omega) HL.out.cur _ rfl _).mono ?_; rintro e w3 ⟨s, hs, rfl, hL⟩; replace Z := Lib.hid (Z.out.turn hL.2 HNE.out); replace Y := Lib.hid (Y.out.turn hL.2 HNY.out); replace HL := Lib.hid (HL.out.trans hL); clear o0 o1 o2 o3 o4 o5 f0 f1 f2 f3 f4 f5 p0 p1 p2 p3 p4 p5 q0 q1 q2 q3 q4 q5; obtain ⟨o0, o1, o2, o3, o4, o5, f0, f1, f2, f3, f4, f5⟩ := Z.out.cells6; obtain ⟨p0, p1, p2, p3, p4, p5, q0, q1, q2, q3, q4, q5⟩ := Y.out.cells6; clear hL
    go_wp2_with fail
    refine bodyPost_ret (by simp [results, Tryz.results27, go_sem, o0, o1, o2, o3, o4, o5, p0, p1, p2, p3, p4, p5, hne1, hne2]; try rfl) rfl ?_
    exact AnyI.ret (by first | omega | decide) (by omega) (by omega) (by omega) (by omega) (by omega) (HL.out.low (lo := w.heap.size) (by go_grown) (Nat.le_refl _) hg)
  · go_wp2_with fail
    refine (l1Int_new B g [0, 11, 6, 7] 4 (0) 11 _ rfl (by intro z hz; simp at hz; omega) (by omega) (by omega) HL.out.cur _ rfl _).mono ?_; rintro e w3 ⟨y, hy0, hy1, rfl, hL⟩; replace Z := Lib.hid (Z.out.turn hL.2 HNE.out); replace Y := Lib.hid (Y.out.turn hL.2 HNY.out); replace HL := Lib.hid (HL.out.trans hL); clear o0 o1 o2 o3 o4 o5 f0 f1 f2 f3 f4 f5 p0 p1 p2 p3 p4 p5 q0 q1 q2 q3 q4 q5; obtain ⟨o0, o1, o2, o3, o4, o5, f0, f1, f2, f3, f4, f5⟩ := Z.out.cells6; obtain ⟨p0, p1, p2, p3, p4, p5, q0, q1, q2, q3, q4, q5⟩ := Y.out.cells6; clear hL
    go_wp2_with fail
    refine bodyPost_ret (by simp [results, Tryz.results27, go_sem, o0, o1, o2, o3, o4, o5, p0, p1, p2, p3, p4, p5, hne1, hne2]; try rfl) rfl ?_
    exact AnyI.ret (by first | omega | decide) (by omega) (by omega) (by omega) (by omega) (by omega) (HL.out.low (lo := w.heap.size) (by go_grown) (Nat.le_refl _) hg)
  · have n0 : (x == 0) = false := by simp; omega
    have n1 : (x == 1) = false := by simp; omega
    have n2 : (x == 2) = false := by simp; omega
    have n3 : (x == 3) = false := by simp; omega
    have n4 : (x == 4) = false := by simp; omega
    have n5 : (x == 5) = false := by simp; omega
    go_wp2_with fail
    refine bodyPost_ret (by simp [results, Tryz.results27, go_sem, o0, o1, o2, o3, o4, o5, p0, p1, p2, p3, p4, p5, hne1, hne2]; try rfl) rfl ?_
    exact AnyI.ret (by first | omega | decide) (by omega) (by omega) (by omega) (by omega) (by omega) (HL.out.low (lo := w.heap.size) (by go_grown) (Nat.le_refl _) hg)
theorem AnyI.below {B g : Nat} {w w' : World} {e : Ending} (h : AnyI B g w e w') (hB : B ≤ g) (hs : B ≤ w.heap.size) : ∃ x : I, x.name.size ≤ 8 ∧ e = .returned (.agg #[.int .i64 x.op, .int .i64 x.a, .int .i64 x.b, .int .i64 x.c, .int .i64 x.d, .string x.name]) ∧ Below B w w' := by
  obtain ⟨x, h1, h2, h3⟩ := h
  exact ⟨x, h1.1, h2, h3.below hB hs⟩
theorem Code.low {w w' : World} {A : Option Addr} {n : Nat} (h : Code w A n) (hb : Below w.heap.size w w') : Code w' A n := by
  obtain ⟨zs, h1, h2, h3, h4⟩ := h
  exact ⟨zs, h1, h2, h3, (h4.below hb).more hb.size⟩
/-- An instruction was drawn; what was there stands. -/
def DrewI (w : World) (e : Ending) (w' : World) : Prop := ∃ x : I, x.name.size ≤ 8 ∧ e = .returned (.agg #[.int .i64 x.op, .int .i64 x.a, .int .i64 x.b, .int .i64 x.c, .int .i64 x.d, .string x.name]) ∧ Below w.heap.size w w'
theorem DrewI.ret {w w' : World} {op a b c d : Int} {nm : ByteArray} (hn : nm.size ≤ 8) (h : Below w.heap.size w w') : DrewI w (.returned (.agg #[.int .i64 op, .int .i64 a, .int .i64 b, .int .i64 c, .int .i64 d, .string nm])) w' := ⟨⟨op, a, b, c, d, nm⟩, hn, rfl, h⟩
end Go.Proofs.YtgibhbplgiejpaaGreat
