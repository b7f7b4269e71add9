/- Draws of instructions: l5Name, l5Instr. -/
import Derived.Test.YtgibhbplgiejpaaGreatInsA
import Derived.Test.YtgibhbplgiejpaaGreatBase
namespace Go.Proofs.YtgibhbplgiejpaaGreat
open Go.RowKit
set_option linter.unusedVariables false
theorem Left.cur {B g : Nat} {w w' : World} (h : Left B g w w') : Cur w' B g := h.1
/-- An instruction was drawn. -/
def I.in64 (x : I) : Prop := (-9223372036854775808 ≤ x.op ∧ x.op ≤ 9223372036854775807) ∧ (-9223372036854775808 ≤ x.a ∧ x.a ≤ 9223372036854775807) ∧ (-9223372036854775808 ≤ x.b ∧ x.b ≤ 9223372036854775807) ∧ (-9223372036854775808 ≤ x.c ∧ x.c ≤ 9223372036854775807) ∧ (-9223372036854775808 ≤ x.d ∧ x.d ≤ 9223372036854775807)
def AnyI (B g : Nat) (w : World) (e : Ending) (w' : World) : Prop := ∃ x : I, (x.name.size ≤ 8 ∧ x.in64) ∧ e = .returned (.agg #[.int .i64 x.op, .int .i64 x.a, .int .i64 x.b, .int .i64 x.c, .int .i64 x.d, .string x.name]) ∧ Left B g w w'
theorem AnyI.ret {B g : Nat} {w w' : World} {op a b c d : Int} {nm : ByteArray} (hn : nm.size ≤ 8) (b0 : (-9223372036854775808 ≤ op ∧ op ≤ 9223372036854775807)) (b1 : (-9223372036854775808 ≤ a ∧ a ≤ 9223372036854775807)) (b2 : (-9223372036854775808 ≤ b ∧ b ≤ 9223372036854775807)) (b3 : (-9223372036854775808 ≤ c ∧ c ≤ 9223372036854775807)) (b4 : (-9223372036854775808 ≤ d ∧ d ≤ 9223372036854775807)) (h : Left B g w w') : AnyI B g w (.returned (.agg #[.int .i64 op, .int .i64 a, .int .i64 b, .int .i64 c, .int .i64 d, .string nm])) w' := ⟨⟨op, a, b, c, d, nm⟩, ⟨hn, b0, b1, b2, b3, b4⟩, rfl, h⟩
theorem Zb.cells6 {B g : Nat} {w : World} {x0 x1 x2 x3 x4 x5 : Value} (h : Zb B g [x0, x1, x2, x3, x4, x5] w) :
    w.cell? ⟨g, 0, none⟩ = some x0 ∧ w.cell? ⟨g, 1, none⟩ = some x1 ∧ w.cell? ⟨g, 2, none⟩ = some x2 ∧ w.cell? ⟨g, 3, none⟩ = some x3 ∧ w.cell? ⟨g, 4, none⟩ = some x4 ∧ w.cell? ⟨g, 5, none⟩ = some x5 ∧
    w.frozen? ⟨g, 0, none⟩ = false ∧ w.frozen? ⟨g, 1, none⟩ = false ∧ w.frozen? ⟨g, 2, none⟩ = false ∧ w.frozen? ⟨g, 3, none⟩ = false ∧ w.frozen? ⟨g, 4, none⟩ = false ∧ w.frozen? ⟨g, 5, none⟩ = false :=
  ⟨h.2.1.2 0 _ rfl, h.2.1.2 1 _ rfl, h.2.1.2 2 _ rfl, h.2.1.2 3 _ rfl, h.2.1.2 4 _ rfl, h.2.1.2 5 _ rfl, h.2.2 0, h.2.2 1, h.2.2 2, h.2.2 3, h.2.2 4, h.2.2 5⟩
theorem l5Name (B g : Nat) (w : World) (hc : Cur w B g) : Calls Tryz.prog 90 #[.pointer (some ⟨g, 0, none⟩)] w (Str 8 B g w) := by
  go_enter Tryz.func90, Tryz.ntmps90
  go_wp2_with fail
  refine (l1Str_new B g [⟨#[103, 101, 116]⟩, ⟨#[115, 101, 116]⟩, ⟨#[97, 100, 100]⟩, ⟨#[109, 97, 107, 101]⟩, ⟨#[103, 111]⟩] 5 4 _ rfl (by decide) (by omega) (by omega) hc _ rfl _).mono ?_
  rintro e w1 ⟨s, hs, rfl, hL⟩
  go_wp2_with fail
  go_ret
  exact Str.ret (by omega) hL
/-- The same, its first operand no more than the last register. -/
def SmlI (B g : Nat) (w : World) (e : Ending) (w' : World) : Prop := ∃ x : I, (x.name.size ≤ 8 ∧ x.in64 ∧ x.a ≤ 7) ∧ e = .returned (.agg #[.int .i64 x.op, .int .i64 x.a, .int .i64 x.b, .int .i64 x.c, .int .i64 x.d, .string x.name]) ∧ Left B g w w'
theorem SmlI.ret {B g : Nat} {w w' : World} {op a b c d : Int} {nm : ByteArray} (h7 : a ≤ 7) (hn : nm.size ≤ 8) (b0 : (-9223372036854775808 ≤ op ∧ op ≤ 9223372036854775807)) (b1 : (-9223372036854775808 ≤ a ∧ a ≤ 9223372036854775807)) (b2 : (-9223372036854775808 ≤ b ∧ b ≤ 9223372036854775807)) (b3 : (-9223372036854775808 ≤ c ∧ c ≤ 9223372036854775807)) (b4 : (-9223372036854775808 ≤ d ∧ d ≤ 9223372036854775807)) (h : Left B g w w') : SmlI B g w (.returned (.agg #[.int .i64 op, .int .i64 a, .int .i64 b, .int .i64 c, .int .i64 d, .string nm])) w' := ⟨⟨op, a, b, c, d, nm⟩, ⟨hn, ⟨b0, b1, b2, b3, b4⟩, h7⟩, rfl, h⟩
theorem SmlI.any {B g : Nat} {w w' : World} {e : Ending} (h : SmlI B g w e w') : AnyI B g w e w' := by
  obtain ⟨x, h1, h2, h3⟩ := h
  exact ⟨x, ⟨h1.1, h1.2.1⟩, h2, h3⟩
set_option maxRecDepth 100000 in
set_option maxHeartbeats 4000000 in
theorem l5InstrS (B g : Nat) (w : World) (hc : Cur w B g) : Calls Tryz.prog 53 #[.pointer (some ⟨g, 0, none⟩)] w (SmlI B g w) := by
  have hg := hc.lt
  have HNE : Hid (w.heap.size ≠ g) := Lib.hid (by omega)
  have Z : Hid (Zb w.heap.size w.heap.size [.int .i64 0, .int .i64 0, .int .i64 0, .int .i64 0, .int .i64 0, .string ⟨#[]⟩] (w.alloc (.cells #[.int .i64 0, .int .i64 0, .int .i64 0, .int .i64 0, .int .i64 0, .string ⟨#[]⟩] 32))) := Lib.hid (Zb.new w #[.int .i64 0, .int .i64 0, .int .i64 0, .int .i64 0, .int .i64 0, .string ⟨#[]⟩] 32 (Nat.le_refl _))
  have HL : Hid (Left B g w (w.alloc (.cells #[.int .i64 0, .int .i64 0, .int .i64 0, .int .i64 0, .int .i64 0, .string ⟨#[]⟩] 32))) := Lib.hid ⟨hc.alloc' _, (Turn.refl g w).alloc _⟩
  obtain ⟨o0, o1, o2, o3, o4, o5, f0, f1, f2, f3, f4, f5⟩ := Z.out.cells6
  clear hc
  go_enter Tryz.func53, Tryz.ntmps53
  go_wp2_with fail
  (with_reducible refine (l1Below B g _ _ (by omega) (by omega) HL.out.cur).mono ?_); rintro e w1 ⟨a, ha0, ha1, rfl, hL⟩; replace Z := Lib.hid (Z.out.turn hL.2 HNE.out); replace HL := Lib.hid (HL.out.trans hL); clear o0 o1 o2 o3 o4 o5 f0 f1 f2 f3 f4 f5; obtain ⟨o0, o1, o2, o3, o4, o5, f0, f1, f2, f3, f4, f5⟩ := Z.out.cells6; clear hL
  go_wp2_with fail
  (with_reducible refine (l1Below B g _ _ (by omega) (by omega) HL.out.cur).mono ?_); rintro e w1 ⟨b, hb0, hb1, rfl, hL⟩; replace Z := Lib.hid (Z.out.turn hL.2 HNE.out); replace HL := Lib.hid (HL.out.trans hL); clear o0 o1 o2 o3 o4 o5 f0 f1 f2 f3 f4 f5; obtain ⟨o0, o1, o2, o3, o4, o5, f0, f1, f2, f3, f4, f5⟩ := Z.out.cells6; clear hL
  go_wp2_with fail
  refine (l1Int_new B g [-1, -1, 0, 1, 2] 5 (-1) 2 _ rfl (by intro z hz; simp at hz; omega) (by omega) (by omega) HL.out.cur _ rfl _).mono ?_; rintro e w1 ⟨d, hd0, hd1, rfl, hL⟩; replace Z := Lib.hid (Z.out.turn hL.2 HNE.out); replace HL := Lib.hid (HL.out.trans hL); clear o0 o1 o2 o3 o4 o5 f0 f1 f2 f3 f4 f5; obtain ⟨o0, o1, o2, o3, o4, o5, f0, f1, f2, f3, f4, f5⟩ := Z.out.cells6; clear hL
  go_wp2_with fail
  (with_reducible refine (l1Below B g _ _ (by omega) (by omega) HL.out.cur).mono ?_); rintro e w1 ⟨x, hx0, hx1, rfl, hL⟩; replace Z := Lib.hid (Z.out.turn hL.2 HNE.out); replace HL := Lib.hid (HL.out.trans hL); clear o0 o1 o2 o3 o4 o5 f0 f1 f2 f3 f4 f5; obtain ⟨o0, o1, o2, o3, o4, o5, f0, f1, f2, f3, f4, f5⟩ := Z.out.cells6; clear hL
  rcases (by omega : x = 0 ∨ x = 1 ∨ x = 2 ∨ x = 3 ∨ x = 4 ∨ x = 5 ∨ x = 6 ∨ x = 7 ∨ x = 8 ∨ x = 9 ∨ x = 10 ∨ x = 11) with rfl | rfl | rfl | rfl | rfl | rfl | rfl | rfl | rfl | rfl | rfl | rfl
  · go_wp2_with fail
    (with_reducible refine (l1Below B g _ _ (by omega) (by omega) HL.out.cur).mono ?_); rintro e w1 ⟨y, hy0, hy1, rfl, hL⟩; replace Z := Lib.hid (Z.out.turn hL.2 HNE.out); replace HL := Lib.hid (HL.out.trans hL); clear o0 o1 o2 o3 o4 o5 f0 f1 f2 f3 f4 f5; obtain ⟨o0, o1, o2, o3, o4, o5, f0, f1, f2, f3, f4, f5⟩ := Z.out.cells6; clear hL
    go_wp2_with fail
    refine bodyPost_ret (by simp [results, Tryz.results53, go_sem, o0, o1, o2, o3, o4, o5]; try rfl) rfl ?_
    exact SmlI.ret (by omega) (by first | omega | decide) (by omega) (by omega) (by omega) (by omega) (by omega) (HL.out.low (lo := w.heap.size) (by go_grown) (Nat.le_refl _) hg)
  · go_wp2_with fail
    (with_reducible refine (l1Below B g _ _ (by omega) (by omega) HL.out.cur).mono ?_); rintro e w1 ⟨y, hy0, hy1, rfl, hL⟩; replace Z := Lib.hid (Z.out.turn hL.2 HNE.out); replace HL := Lib.hid (HL.out.trans hL); clear o0 o1 o2 o3 o4 o5 f0 f1 f2 f3 f4 f5; obtain ⟨o0, o1, o2, o3, o4, o5, f0, f1, f2, f3, f4, f5⟩ := Z.out.cells6; clear hL
    go_wp2_with fail
    refine bodyPost_ret (by simp [results, Tryz.results53, go_sem, o0, o1, o2, o3, o4, o5]; try rfl) rfl ?_
    exact SmlI.ret (by omega) (by first | omega | decide) (by omega) (by omega) (by omega) (by omega) (by omega) (HL.out.low (lo := w.heap.size) (by go_grown) (Nat.le_refl _) hg)
  · go_wp2_with fail
    (with_reducible refine (l1Below B g _ _ (by omega) (by omega) HL.out.cur).mono ?_); rintro e w1 ⟨y, hy0, hy1, rfl, hL⟩; replace Z := Lib.hid (Z.out.turn hL.2 HNE.out); replace HL := Lib.hid (HL.out.trans hL); clear o0 o1 o2 o3 o4 o5 f0 f1 f2 f3 f4 f5; obtain ⟨o0, o1, o2, o3, o4, o5, f0, f1, f2, f3, f4, f5⟩ := Z.out.cells6; clear hL
    go_wp2_with fail
    refine bodyPost_ret (by simp [results, Tryz.results53, go_sem, o0, o1, o2, o3, o4, o5]; try rfl) rfl ?_
    exact SmlI.ret (by omega) (by first | omega | decide) (by omega) (by omega) (by omega) (by omega) (by omega) (HL.out.low (lo := w.heap.size) (by go_grown) (Nat.le_refl _) hg)
  · go_wp2_with fail
    (with_reducible refine (l1Below B g _ _ (by omega) (by omega) HL.out.cur).mono ?_); rintro e w1 ⟨y, hy0, hy1, rfl, hL⟩; replace Z := Lib.hid (Z.out.turn hL.2 HNE.out); replace HL := Lib.hid (HL.out.trans hL); clear o0 o1 o2 o3 o4 o5 f0 f1 f2 f3 f4 f5; obtain ⟨o0, o1, o2, o3, o4, o5, f0, f1, f2, f3, f4, f5⟩ := Z.out.cells6; clear hL
    go_wp2_with fail
    refine bodyPost_ret (by simp [results, Tryz.results53, go_sem, o0, o1, o2, o3, o4, o5]; try rfl) rfl ?_
    exact SmlI.ret (by omega) (by first | omega | decide) (by omega) (by omega) (by omega) (by omega) (by omega) (HL.out.low (lo := w.heap.size) (by go_grown) (Nat.le_refl _) hg)
  · go_wp2_with fail
    (with_reducible refine (l1Below B g _ _ (by omega) (by omega) HL.out.cur).mono ?_); rintro e w1 ⟨y, hy0, hy1, rfl, hL⟩; replace Z := Lib.hid (Z.out.turn hL.2 HNE.out); replace HL := Lib.hid (HL.out.trans hL); clear o0 o1 o2 o3 o4 o5 f0 f1 f2 f3 f4 f5; obtain ⟨o0, o1, o2, o3, o4, o5, f0, f1, f2, f3, f4, f5⟩ := Z.out.cells6; clear hL
    go_wp2_with fail
    refine bodyPost_ret (by simp [results, Tryz.results53, go_sem, o0, o1, o2, o3, o4, o5]; try rfl) rfl ?_
    exact SmlI.ret (by omega) (by first | omega | decide) (by omega) (by omega) (by omega) (by omega) (by omega) (HL.out.low (lo := w.heap.size) (by go_grown) (Nat.le_refl _) hg)
  · go_wp2_with fail
    refine bodyPost_ret (by simp [results, Tryz.results53, go_sem, o0, o1, o2, o3, o4, o5]; try rfl) rfl ?_
    exact SmlI.ret (by omega) (by first | omega | decide) (by omega) (by omega) (by omega) (by omega) (by omega) (HL.out.low (lo := w.heap.size) (by go_grown) (Nat.le_refl _) hg)
  · go_wp2_with fail
    (with_reducible refine (l1Below B g _ _ (by omega) (by omega) HL.out.cur).mono ?_); rintro e w1 ⟨y, hy0, hy1, rfl, hL⟩; replace Z := Lib.hid (Z.out.turn hL.2 HNE.out); replace HL := Lib.hid (HL.out.trans hL); clear o0 o1 o2 o3 o4 o5 f0 f1 f2 f3 f4 f5; obtain ⟨o0, o1, o2, o3, o4, o5, f0, f1, f2, f3, f4, f5⟩ := Z.out.cells6; clear hL
    go_wp2_with fail
    refine bodyPost_ret (by simp [results, Tryz.results53, go_sem, o0, o1, o2, o3, o4, o5]; try rfl) rfl ?_
    exact SmlI.ret (by omega) (by first | omega | decide) (by omega) (by omega) (by omega) (by omega) (by omega) (HL.out.low (lo := w.heap.size) (by go_grown) (Nat.le_refl _) hg)
  · by_cases hd : d = -1
    · subst hd
      go_wp2_with fail
      (with_reducible refine (l5Name B g _ HL.out.cur).mono ?_); rintro e w1 ⟨s, hs, rfl, hL⟩; replace Z := Lib.hid (Z.out.turn hL.2 HNE.out); replace HL := Lib.hid (HL.out.trans hL); clear o0 o1 o2 o3 o4 o5 f0 f1 f2 f3 f4 f5; obtain ⟨o0, o1, o2, o3, o4, o5, f0, f1, f2, f3, f4, f5⟩ := Z.out.cells6; clear hL
      go_wp2_with fail
      refine bodyPost_ret (by simp [results, Tryz.results53, go_sem, o0, o1, o2, o3, o4, o5]; try rfl) rfl ?_
      exact SmlI.ret (by omega) (by first | omega | decide) (by omega) (by omega) (by omega) (by omega) (by omega) (HL.out.low (lo := w.heap.size) (by go_grown) (Nat.le_refl _) hg)
    · have hd' : (d == -1) = false := by simpa using hd
      clear hd
      go_wp2_with fail
      refine (l1Int_new B g [-1, 0, 3] 3 (-1) 3 _ rfl (by intro z hz; simp at hz; omega) (by omega) (by omega) HL.out.cur _ rfl _).mono ?_; rintro e w1 ⟨y, hy0, hy1, rfl, hL⟩; replace Z := Lib.hid (Z.out.turn hL.2 HNE.out); replace HL := Lib.hid (HL.out.trans hL); clear o0 o1 o2 o3 o4 o5 f0 f1 f2 f3 f4 f5; obtain ⟨o0, o1, o2, o3, o4, o5, f0, f1, f2, f3, f4, f5⟩ := Z.out.cells6; clear hL
      go_wp2_with fail
      (with_reducible refine (l5Name B g _ HL.out.cur).mono ?_); rintro e w1 ⟨s, hs, rfl, hL⟩; replace Z := Lib.hid (Z.out.turn hL.2 HNE.out); replace HL := Lib.hid (HL.out.trans hL); clear o0 o1 o2 o3 o4 o5 f0 f1 f2 f3 f4 f5; obtain ⟨o0, o1, o2, o3, o4, o5, f0, f1, f2, f3, f4, f5⟩ := Z.out.cells6; clear hL
      go_wp2_with fail
      refine bodyPost_ret (by simp [results, Tryz.results53, go_sem, o0, o1, o2, o3, o4, o5]; try rfl) rfl ?_
      exact SmlI.ret (by omega) (by first | omega | decide) (by omega) (by omega) (by omega) (by omega) (by omega) (HL.out.low (lo := w.heap.size) (by go_grown) (Nat.le_refl _) hg)
  · by_cases hd : d = -1
    · subst hd
      go_wp2_with fail
      (with_reducible refine (l5Name B g _ HL.out.cur).mono ?_); rintro e w1 ⟨s, hs, rfl, hL⟩; replace Z := Lib.hid (Z.out.turn hL.2 HNE.out); replace HL := Lib.hid (HL.out.trans hL); clear o0 o1 o2 o3 o4 o5 f0 f1 f2 f3 f4 f5; obtain ⟨o0, o1, o2, o3, o4, o5, f0, f1, f2, f3, f4, f5⟩ := Z.out.cells6; clear hL
      go_wp2_with fail
      refine bodyPost_ret (by simp [results, Tryz.results53, go_sem, o0, o1, o2, o3, o4, o5]; try rfl) rfl ?_
      exact SmlI.ret (by omega) (by first | omega | decide) (by omega) (by omega) (by omega) (by omega) (by omega) (HL.out.low (lo := w.heap.size) (by go_grown) (Nat.le_refl _) hg)
    · have hd' : (d == -1) = false := by simpa using hd
      clear hd
      go_wp2_with fail
      refine (l1Int_new B g [-1, 0, 3] 3 (-1) 3 _ rfl (by intro z hz; simp at hz; omega) (by omega) (by omega) HL.out.cur _ rfl _).mono ?_; rintro e w1 ⟨y, hy0, hy1, rfl, hL⟩; replace Z := Lib.hid (Z.out.turn hL.2 HNE.out); replace HL := Lib.hid (HL.out.trans hL); clear o0 o1 o2 o3 o4 o5 f0 f1 f2 f3 f4 f5; obtain ⟨o0, o1, o2, o3, o4, o5, f0, f1, f2, f3, f4, f5⟩ := Z.out.cells6; clear hL
      go_wp2_with fail
      (with_reducible refine (l5Name B g _ HL.out.cur).mono ?_); rintro e w1 ⟨s, hs, rfl, hL⟩; replace Z := Lib.hid (Z.out.turn hL.2 HNE.out); replace HL := Lib.hid (HL.out.trans hL); clear o0 o1 o2 o3 o4 o5 f0 f1 f2 f3 f4 f5; obtain ⟨o0, o1, o2, o3, o4, o5, f0, f1, f2, f3, f4, f5⟩ := Z.out.cells6; clear hL
      go_wp2_with fail
      refine bodyPost_ret (by simp [results, Tryz.results53, go_sem, o0, o1, o2, o3, o4, o5]; try rfl) rfl ?_
      exact SmlI.ret (by omega) (by first | omega | decide) (by omega) (by omega) (by omega) (by omega) (by omega) (HL.out.low (lo := w.heap.size) (by go_grown) (Nat.le_refl _) hg)
  · by_cases hd : d = -1
    · subst hd
      go_wp2_with fail
      refine (l1Str_new B g [⟨#[99, 101, 108, 108]⟩, ⟨#[112, 114, 111, 120, 121]⟩, ⟨#[109, 97, 107, 101, 114]⟩, ⟨#[110, 111, 110, 101]⟩] 4 5 _ rfl (by decide) (by omega) (by omega) HL.out.cur _ rfl _).mono ?_; rintro e w1 ⟨s, hs, rfl, hL⟩; replace Z := Lib.hid (Z.out.turn hL.2 HNE.out); replace HL := Lib.hid (HL.out.trans hL); clear o0 o1 o2 o3 o4 o5 f0 f1 f2 f3 f4 f5; obtain ⟨o0, o1, o2, o3, o4, o5, f0, f1, f2, f3, f4, f5⟩ := Z.out.cells6; clear hL
      go_wp2_with fail
      refine bodyPost_ret (by simp [results, Tryz.results53, go_sem, o0, o1, o2, o3, o4, o5]; try rfl) rfl ?_
      exact SmlI.ret (by omega) (by first | omega | decide) (by omega) (by omega) (by omega) (by omega) (by omega) (HL.out.low (lo := w.heap.size) (by go_grown) (Nat.le_refl _) hg)
    · have hd' : (d == -1) = false := by simpa using hd
      clear hd
      go_wp2_with fail
      refine (l1Str_new B g [⟨#[99, 101, 108, 108]⟩, ⟨#[112, 114, 111, 120, 121]⟩, ⟨#[109, 97, 107, 101, 114]⟩] 3 5 _ rfl (by decide) (by omega) (by omega) HL.out.cur _ rfl _).mono ?_; rintro e w1 ⟨s, hs, rfl, hL⟩; replace Z := Lib.hid (Z.out.turn hL.2 HNE.out); replace HL := Lib.hid (HL.out.trans hL); clear o0 o1 o2 o3 o4 o5 f0 f1 f2 f3 f4 f5; obtain ⟨o0, o1, o2, o3, o4, o5, f0, f1, f2, f3, f4, f5⟩ := Z.out.cells6; clear hL
      go_wp2_with fail
      refine bodyPost_ret (by simp [results, Tryz.results53, go_sem, o0, o1, o2, o3, o4, o5]; try rfl) rfl ?_
      exact SmlI.ret (by omega) (by first | omega | decide) (by omega) (by omega) (by omega) (by omega) (by omega) (HL.out.low (lo := w.heap.size) (by go_grown) (Nat.le_refl _) hg)
  · go_wp2_with fail
    (with_reducible refine (l1Below B g _ _ (by omega) (by omega) HL.out.cur).mono ?_); rintro e w1 ⟨y, hy0, hy1, rfl, hL⟩; replace Z := Lib.hid (Z.out.turn hL.2 HNE.out); replace HL := Lib.hid (HL.out.trans hL); clear o0 o1 o2 o3 o4 o5 f0 f1 f2 f3 f4 f5; obtain ⟨o0, o1, o2, o3, o4, o5, f0, f1, f2, f3, f4, f5⟩ := Z.out.cells6; clear hL
    go_wp2_with fail
    refine bodyPost_ret (by simp [results, Tryz.results53, go_sem, o0, o1, o2, o3, o4, o5]; try rfl) rfl ?_
    exact SmlI.ret (by omega) (by first | omega | decide) (by omega) (by omega) (by omega) (by omega) (by omega) (HL.out.low (lo := w.heap.size) (by go_grown) (Nat.le_refl _) hg)
  · go_wp2_with fail
    (with_reducible refine (l1Once B g _ _ (by omega) (by omega) HL.out.cur).mono ?_); rintro e w1 ⟨y, rfl, hL⟩; replace Z := Lib.hid (Z.out.turn hL.2 HNE.out); replace HL := Lib.hid (HL.out.trans hL); clear o0 o1 o2 o3 o4 o5 f0 f1 f2 f3 f4 f5; obtain ⟨o0, o1, o2, o3, o4, o5, f0, f1, f2, f3, f4, f5⟩ := Z.out.cells6; clear hL
    cases y
    · go_wp2_with fail
      refine bodyPost_ret (by simp [results, Tryz.results53, go_sem, o0, o1, o2, o3, o4, o5]; try rfl) rfl ?_
      exact SmlI.ret (by omega) (by first | omega | decide) (by omega) (by omega) (by omega) (by omega) (by omega) (HL.out.low (lo := w.heap.size) (by go_grown) (Nat.le_refl _) hg)
    · go_wp2_with fail
      (with_reducible refine (l1Below B g _ _ (by omega) (by omega) HL.out.cur).mono ?_); rintro e w1 ⟨y, hy0, hy1, rfl, hL⟩; replace Z := Lib.hid (Z.out.turn hL.2 HNE.out); replace HL := Lib.hid (HL.out.trans hL); clear o0 o1 o2 o3 o4 o5 f0 f1 f2 f3 f4 f5; obtain ⟨o0, o1, o2, o3, o4, o5, f0, f1, f2, f3, f4, f5⟩ := Z.out.cells6; clear hL
      go_wp2_with fail
      refine bodyPost_ret (by simp [results, Tryz.results53, go_sem, o0, o1, o2, o3, o4, o5]; try rfl) rfl ?_
      exact SmlI.ret (by omega) (by first | omega | decide) (by omega) (by omega) (by omega) (by omega) (by omega) (HL.out.low (lo := w.heap.size) (by go_grown) (Nat.le_refl _) hg)
theorem l5Instr (B g : Nat) (w : World) (hc : Cur w B g) : Calls Tryz.prog 53 #[.pointer (some ⟨g, 0, none⟩)] w (AnyI B g w) := (l5InstrS B g w hc).mono fun _ _ h => h.any
end Go.Proofs.YtgibhbplgiejpaaGreat
