/- Draws of chapter 9: l9Copy. -/
import Derived.Test.YtfgijebgnkikpaaDraw9C
import Derived.Test.YtfgijebgnkikpaaLawE0
import Derived.LoopTactic
import Derived.Lib.Hide
import Derived.Deep.QuietTactic
import Derived.BigQuiet
import Derived.Deep.RegionWith
import Derived.Handy
namespace Go.Proofs.Ytfgijebgnkikpaa
open Go.RowKit
set_option linter.unusedVariables false
set_option linter.unusedSimpArgs false
/-- A copy comes back. -/
def GivesCopy (f0 : Int) (f1 : Int) (L2 : List Dat) (n2 : Nat) (f3 : Int) (f4_0 : Int) (f4_1 : Int) (L5 : List Dat) (L6 : List Dat) (n6 : Nat) (f7 : Int) (f8 : Int) (f9 : Int) (f10 : Int) (w : World) (e : Ending) (w' : World) : Prop :=
  ∃ (B2 : Option Addr) (k2 : Nat) (B5 : Option Addr) (m5 k5 : Nat) (B6 : Option Addr) (k6 : Nat), e = .returned (.agg #[.int .i64 f0, .int .i64 f1, .slice B2 n2 k2, .int .i64 f3, .int .i64 f4_0, .int .i64 f4_1, .slice B5 m5 k5, .slice B6 n6 k6, .int .i64 f7, .int .i64 f8, .int .i64 f9, .int .i64 f10]) ∧ Owns w' (.l L2) [.slice B2 n2 k2] (fun b => w.heap.size < b) ∧ Owns w' (.l L5) [.slice B5 m5 k5] (fun b => w.heap.size < b) ∧ Owns w' (.l L6) [.slice B6 n6 k6] (fun b => w.heap.size < b) ∧ Below w.heap.size w w'
/-- Midway: the argument's box, the result's, the copy's. -/
def CpQ (W : World) (e cs : List Value) (w : World) : Prop :=
  Below W.heap.size W w ∧ Box W.heap.size e w ∧ (Box (W.heap.size + 1) [.int .i64 0, .int .i64 0, .slice none 0 0, .int .i64 0, .int .i64 0, .int .i64 0, .slice none 0 0, .slice none 0 0, .int .i64 0, .int .i64 0, .int .i64 0, .int .i64 0] w ∧ ∀ j, w.frozen? ⟨W.heap.size + 1, j, none⟩ = false) ∧ (Box (W.heap.size + 1 + 1) cs w ∧ ∀ j, w.frozen? ⟨W.heap.size + 1 + 1, j, none⟩ = false) ∧ W.heap.size + 1 + 1 + 1 ≤ w.heap.size
theorem CpQ.low {W w w' : World} {e cs : List Value} (h : CpQ W e cs w) (hb : Below (W.heap.size + 1 + 1 + 1) w w') : CpQ W e cs w' :=
  ⟨h.1.trans (hb.mono (by omega)), h.2.1.lows hb (by omega), ⟨h.2.2.1.1.lows hb (by omega), fun j => (hb.frozen (p := ⟨W.heap.size + 1, j, none⟩) (by show W.heap.size + 1 < _; omega)).trans (h.2.2.1.2 j)⟩, ⟨h.2.2.2.1.1.lows hb (by omega), fun j => (hb.frozen (p := ⟨W.heap.size + 1 + 1, j, none⟩) (by show W.heap.size + 1 + 1 < _; omega)).trans (h.2.2.2.1.2 j)⟩, Nat.le_trans h.2.2.2.2 hb.size⟩
theorem CpQ.put {W w : World} {e cs : List Value} (h : CpQ W e cs w) (j : Nat) (v : Value) : CpQ W e (cs.set j v) (w.setCell ⟨W.heap.size + 1 + 1, j, none⟩ v) :=
  ⟨h.1.setCell (p := ⟨W.heap.size + 1 + 1, j, none⟩) (by show W.heap.size ≤ W.heap.size + 1 + 1; omega) v, h.2.1.far (by omega) v, ⟨h.2.2.1.1.far (by omega) v, fun i => by rw [World.frozen?_setCell]; exact h.2.2.1.2 i⟩, ⟨h.2.2.2.1.1.put j v, fun i => by rw [World.frozen?_setCell]; exact h.2.2.2.1.2 i⟩, by simp only [World.size_setCell]; exact h.2.2.2.2⟩
set_option maxRecDepth 100000 in
set_option maxHeartbeats 16000000 in
theorem l9Copy (f0 : Int) (f1 : Int) (L2 : List Dat) (A2 : Option Addr) (n2 c2 : Nat) (f3 : Int) (f4_0 : Int) (f4_1 : Int) (L5 : List Dat) (A5 : Option Addr) (n5 c5 : Nat) (L6 : List Dat) (A6 : Option Addr) (n6 c6 : Nat) (f7 : Int) (f8 : Int) (f9 : Int) (f10 : Int) (w : World) (hl2 : Lies w (.l L2) [.slice A2 n2 c2]) (ht2 : ∀ x ∈ L2, Has tyValue x) (hl5 : Lies w (.l L5) [.slice A5 n5 c5]) (ht5 : ∀ x ∈ L5, Has tySent x) (hl6 : Lies w (.l L6) [.slice A6 n6 c6]) (ht6 : ∀ x ∈ L6, Has tyAsker x) (hn2 : n2 ≤ 4) (hq5 : (Dat.l L5).bulk ≤ 1000) (hn6 : n6 ≤ 4) :
    Calls Try.prog 50 #[.agg #[.int .i64 f0, .int .i64 f1, .slice A2 n2 c2, .int .i64 f3, .int .i64 f4_0, .int .i64 f4_1, .slice A5 n5 c5, .slice A6 n6 c6, .int .i64 f7, .int .i64 f8, .int .i64 f9, .int .i64 f10]] w (GivesCopy f0 f1 L2 n2 f3 f4_0 f4_1 L5 L6 n6 f7 f8 f9 f10 w) := by
  obtain ⟨i0, hi, hz0, hz1, hz2⟩ := info_parts infoValue
  obtain ⟨i1, hj, hy0, hy1, hy2⟩ := info_parts infoAsker
  have HL2 := Lib.hid hl2
  have HL5 := Lib.hid hl5
  have HL6 := Lib.hid hl6
  have HT2 := Lib.hid ht2
  have HT5 := Lib.hid ht5
  have HT6 := Lib.hid ht6
  clear hl2 hl5 hl6 ht2 ht5 ht6
  have X0 : CpQ w [.int .i64 f0, .int .i64 f1, .slice A2 n2 c2, .int .i64 f3, .int .i64 f4_0, .int .i64 f4_1, .slice A5 n5 c5, .slice A6 n6 c6, .int .i64 f7, .int .i64 f8, .int .i64 f9, .int .i64 f10] [.int .i64 f0, .int .i64 f1, .slice A2 n2 c2, .int .i64 f3, .int .i64 f4_0, .int .i64 f4_1, .slice A5 n5 c5, .slice A6 n6 c6, .int .i64 f7, .int .i64 f8, .int .i64 f9, .int .i64 f10] (((w.alloc (.cells #[.int .i64 f0, .int .i64 f1, .slice A2 n2 c2, .int .i64 f3, .int .i64 f4_0, .int .i64 f4_1, .slice A5 n5 c5, .slice A6 n6 c6, .int .i64 f7, .int .i64 f8, .int .i64 f9, .int .i64 f10] 30)).alloc (.cells #[.int .i64 0, .int .i64 0, .slice none 0 0, .int .i64 0, .int .i64 0, .int .i64 0, .slice none 0 0, .slice none 0 0, .int .i64 0, .int .i64 0, .int .i64 0, .int .i64 0] 30)).alloc (.cells #[.int .i64 f0, .int .i64 f1, .slice A2 n2 c2, .int .i64 f3, .int .i64 f4_0, .int .i64 f4_1, .slice A5 n5 c5, .slice A6 n6 c6, .int .i64 f7, .int .i64 f8, .int .i64 f9, .int .i64 f10] 30)) := by
    have q1 := Box.new (w.alloc (.cells #[.int .i64 f0, .int .i64 f1, .slice A2 n2 c2, .int .i64 f3, .int .i64 f4_0, .int .i64 f4_1, .slice A5 n5 c5, .slice A6 n6 c6, .int .i64 f7, .int .i64 f8, .int .i64 f9, .int .i64 f10] 30)) #[.int .i64 0, .int .i64 0, .slice none 0 0, .int .i64 0, .int .i64 0, .int .i64 0, .slice none 0 0, .slice none 0 0, .int .i64 0, .int .i64 0, .int .i64 0, .int .i64 0] 30
    have q2 := Box.new ((w.alloc (.cells #[.int .i64 f0, .int .i64 f1, .slice A2 n2 c2, .int .i64 f3, .int .i64 f4_0, .int .i64 f4_1, .slice A5 n5 c5, .slice A6 n6 c6, .int .i64 f7, .int .i64 f8, .int .i64 f9, .int .i64 f10] 30)).alloc (.cells #[.int .i64 0, .int .i64 0, .slice none 0 0, .int .i64 0, .int .i64 0, .int .i64 0, .slice none 0 0, .slice none 0 0, .int .i64 0, .int .i64 0, .int .i64 0, .int .i64 0] 30)) #[.int .i64 f0, .int .i64 f1, .slice A2 n2 c2, .int .i64 f3, .int .i64 f4_0, .int .i64 f4_1, .slice A5 n5 c5, .slice A6 n6 c6, .int .i64 f7, .int .i64 f8, .int .i64 f9, .int .i64 f10] 30
    simp only [World.size_alloc] at q1 q2
    exact ⟨by go_grown, ((Box.new w #[.int .i64 f0, .int .i64 f1, .slice A2 n2 c2, .int .i64 f3, .int .i64 f4_0, .int .i64 f4_1, .slice A5 n5 c5, .slice A6 n6 c6, .int .i64 f7, .int .i64 f8, .int .i64 f9, .int .i64 f10] 30).alloc _).alloc _, ⟨q1.alloc _, fun j => by simp [go_sem]⟩, ⟨q2, fun j => by simp [go_sem]⟩, by simp⟩
  have X := Lib.hid X0
  have B1 : Hid (Below w.heap.size w ((((w.alloc (.cells #[.int .i64 f0, .int .i64 f1, .slice A2 n2 c2, .int .i64 f3, .int .i64 f4_0, .int .i64 f4_1, .slice A5 n5 c5, .slice A6 n6 c6, .int .i64 f7, .int .i64 f8, .int .i64 f9, .int .i64 f10] 30)).alloc (.cells #[.int .i64 0, .int .i64 0, .slice none 0 0, .int .i64 0, .int .i64 0, .int .i64 0, .slice none 0 0, .slice none 0 0, .int .i64 0, .int .i64 0, .int .i64 0, .int .i64 0] 30)).alloc (.cells #[.int .i64 f0, .int .i64 f1, .slice A2 n2 c2, .int .i64 f3, .int .i64 f4_0, .int .i64 f4_1, .slice A5 n5 c5, .slice A6 n6 c6, .int .i64 f7, .int .i64 f8, .int .i64 f9, .int .i64 f10] 30)).alloc (.cells #[] 26))) := Lib.hid (by go_grown)
  have X1 := Lib.hid (X0.low (((Below.refl _ _).alloc (Nat.le_refl _) (.cells #[] 26)).mono X0.2.2.2.2))
  have G1 := Lib.hid (Grow.lit9 26 2 (((w.alloc (.cells #[.int .i64 f0, .int .i64 f1, .slice A2 n2 c2, .int .i64 f3, .int .i64 f4_0, .int .i64 f4_1, .slice A5 n5 c5, .slice A6 n6 c6, .int .i64 f7, .int .i64 f8, .int .i64 f9, .int .i64 f10] 30)).alloc (.cells #[.int .i64 0, .int .i64 0, .slice none 0 0, .int .i64 0, .int .i64 0, .int .i64 0, .slice none 0 0, .slice none 0 0, .int .i64 0, .int .i64 0, .int .i64 0, .int .i64 0] 30)).alloc (.cells #[.int .i64 f0, .int .i64 f1, .slice A2 n2 c2, .int .i64 f3, .int .i64 f4_0, .int .i64 f4_1, .slice A5 n5 c5, .slice A6 n6 c6, .int .i64 f7, .int .i64 f8, .int .i64 f9, .int .i64 f10] 30)))
  simp only [World.size_alloc] at G1
  clear X0
  go_enter Try.func50, Try.ntmps50
  go_wp2_with (first
    | (refine wpList_append_dat _ rfl _ _ 24 rfl 2 (by omega) 26 i0 _ 16 Try.underlying24 hi hz0 hz1 rfl hz2 (w.heap.size + 1 + 1 + 1) _ 0 0 [] _ rfl G1.out A2 n2 c2 L2 (fun _ => False) rfl (Src.of_lies (HL2.out.below B1.out) (fun x hx => (HT2.out x hx).width) (fun x hx => flatValue (HT2.out x hx))) (fun b h => h.elim) (fun a e h => h) (by unfold maxLen; omega) (by omega) (by first | (simp; done) | (simp only [World.size_alloc, World.size_setCell]; omega)) ?_; intro B2 k2 w4 hG hT hA; (have HO2 := Lib.hid (GrowObj hG)); (have hb8 := hT.below (B := w.heap.size + 1 + 1 + 1) (fun b ⟨a, e, hb⟩ => by obtain rfl := Option.some.inj e; rw [hb]; exact Nat.le_refl _) (by first | (simp; done) | (simp only [World.size_alloc, World.size_setCell]; omega))); clear hG hT hA; (have X4 := Lib.hid (X1.out.low hb8)); (have hs4 := hb8.size); simp only [World.size_alloc] at hs4; clear hb8 X X1 B1 G1; (have X := X4); clear X4; have x0 := X.out.2.1.2 0 (.int .i64 f0) rfl; have x1 := X.out.2.1.2 1 (.int .i64 f1) rfl; have x2 := X.out.2.1.2 2 (.slice A2 n2 c2) rfl; have x3 := X.out.2.1.2 3 (.int .i64 f3) rfl; have x4 := X.out.2.1.2 4 (.int .i64 f4_0) rfl; have x5 := X.out.2.1.2 5 (.int .i64 f4_1) rfl; have x6 := X.out.2.1.2 6 (.slice A5 n5 c5) rfl; have x7 := X.out.2.1.2 7 (.slice A6 n6 c6) rfl; have x8 := X.out.2.1.2 8 (.int .i64 f7) rfl; have x9 := X.out.2.1.2 9 (.int .i64 f8) rfl; have x10 := X.out.2.1.2 10 (.int .i64 f9) rfl; have x11 := X.out.2.1.2 11 (.int .i64 f10) rfl; have y0 := X.out.2.2.2.1.1.2 0 (.int .i64 f0) rfl; have y1 := X.out.2.2.2.1.1.2 1 (.int .i64 f1) rfl; have y2 := X.out.2.2.2.1.1.2 2 (.slice A2 n2 c2) rfl; have y3 := X.out.2.2.2.1.1.2 3 (.int .i64 f3) rfl; have y4 := X.out.2.2.2.1.1.2 4 (.int .i64 f4_0) rfl; have y5 := X.out.2.2.2.1.1.2 5 (.int .i64 f4_1) rfl; have y6 := X.out.2.2.2.1.1.2 6 (.slice A5 n5 c5) rfl; have y7 := X.out.2.2.2.1.1.2 7 (.slice A6 n6 c6) rfl; have y8 := X.out.2.2.2.1.1.2 8 (.int .i64 f7) rfl; have y9 := X.out.2.2.2.1.1.2 9 (.int .i64 f8) rfl; have y10 := X.out.2.2.2.1.1.2 10 (.int .i64 f9) rfl; have y11 := X.out.2.2.2.1.1.2 11 (.int .i64 f10) rfl; have fy := X.out.2.2.2.1.2)
    | fail)
  have X5 := Lib.hid (X.out.put 2 (.slice B2 n2 k2))
  have HB5 := Lib.hid X5.out.1
  refine (l9CopySents L5 A5 n5 c5 _ (HL5.out.below HB5.out) HT5.out hq5).mono ?_
  rintro e w5 ⟨B5, m5, k5, rfl, hO5, hb⟩
  have X6 : Hid (CpQ w [.int .i64 f0, .int .i64 f1, .slice A2 n2 c2, .int .i64 f3, .int .i64 f4_0, .int .i64 f4_1, .slice A5 n5 c5, .slice A6 n6 c6, .int .i64 f7, .int .i64 f8, .int .i64 f9, .int .i64 f10] [.int .i64 f0, .int .i64 f1, .slice B2 n2 k2, .int .i64 f3, .int .i64 f4_0, .int .i64 f4_1, .slice A5 n5 c5, .slice A6 n6 c6, .int .i64 f7, .int .i64 f8, .int .i64 f9, .int .i64 f10] w5) := Lib.hid (X5.out.low (hb.mono X5.out.2.2.2.2))
  have O2 := Lib.hid ((HO2.out.touch ((Touch.refl (fun b => b = w.heap.size + 1 + 1) w4).setCell (p := ⟨w.heap.size + 1 + 1, 2, none⟩) rfl (.slice B2 n2 k2)) (fun b hb e => by have h1 := hb.1; omega)).below hb)
  have hs5 := hb.size
  simp only [World.size_setCell] at hs5
  have O5 := Lib.hid (hO5.mono (B' := rng (w.heap.size + 1 + 1 + 1) w5.heap.size) (fun b hb => ⟨by have h1 := hb.1; simp only [World.size_setCell] at h1; omega, hb.2⟩))
  clear hO5 hb X HO2 X5 HB5 x0 y0 x1 y1 x2 y2 x3 y3 x4 y4 x5 y5 x6 y6 x7 y7 x8 y8 x9 y9 x10 y10 x11 y11 fy
  have x0 := X6.out.2.1.2 0 (.int .i64 f0) rfl
  have x1 := X6.out.2.1.2 1 (.int .i64 f1) rfl
  have x2 := X6.out.2.1.2 2 (.slice A2 n2 c2) rfl
  have x3 := X6.out.2.1.2 3 (.int .i64 f3) rfl
  have x4 := X6.out.2.1.2 4 (.int .i64 f4_0) rfl
  have x5 := X6.out.2.1.2 5 (.int .i64 f4_1) rfl
  have x6 := X6.out.2.1.2 6 (.slice A5 n5 c5) rfl
  have x7 := X6.out.2.1.2 7 (.slice A6 n6 c6) rfl
  have x8 := X6.out.2.1.2 8 (.int .i64 f7) rfl
  have x9 := X6.out.2.1.2 9 (.int .i64 f8) rfl
  have x10 := X6.out.2.1.2 10 (.int .i64 f9) rfl
  have x11 := X6.out.2.1.2 11 (.int .i64 f10) rfl
  have y0 := X6.out.2.2.2.1.1.2 0 (.int .i64 f0) rfl
  have y1 := X6.out.2.2.2.1.1.2 1 (.int .i64 f1) rfl
  have y2 := X6.out.2.2.2.1.1.2 2 (.slice B2 n2 k2) rfl
  have y3 := X6.out.2.2.2.1.1.2 3 (.int .i64 f3) rfl
  have y4 := X6.out.2.2.2.1.1.2 4 (.int .i64 f4_0) rfl
  have y5 := X6.out.2.2.2.1.1.2 5 (.int .i64 f4_1) rfl
  have y6 := X6.out.2.2.2.1.1.2 6 (.slice A5 n5 c5) rfl
  have y7 := X6.out.2.2.2.1.1.2 7 (.slice A6 n6 c6) rfl
  have y8 := X6.out.2.2.2.1.1.2 8 (.int .i64 f7) rfl
  have y9 := X6.out.2.2.2.1.1.2 9 (.int .i64 f8) rfl
  have y10 := X6.out.2.2.2.1.1.2 10 (.int .i64 f9) rfl
  have y11 := X6.out.2.2.2.1.1.2 11 (.int .i64 f10) rfl
  have fy := X6.out.2.2.2.1.2
  have X7 := Lib.hid (X6.out.put 6 (.slice B5 m5 k5))
  have G7 := Lib.hid (Grow.lit9 89 2 (w5.setCell ⟨w.heap.size + 1 + 1, 6, none⟩ (.slice B5 m5 k5)))
  simp only [World.size_setCell] at G7
  have B7 : Hid (Below w.heap.size w ((w5.setCell ⟨w.heap.size + 1 + 1, 6, none⟩ (.slice B5 m5 k5)).alloc (.cells #[] 89))) := Lib.hid (X7.out.1.alloc (by have h1 := X7.out.2.2.2.2; omega) _)
  have X8 : Hid (CpQ w [.int .i64 f0, .int .i64 f1, .slice A2 n2 c2, .int .i64 f3, .int .i64 f4_0, .int .i64 f4_1, .slice A5 n5 c5, .slice A6 n6 c6, .int .i64 f7, .int .i64 f8, .int .i64 f9, .int .i64 f10] [.int .i64 f0, .int .i64 f1, .slice B2 n2 k2, .int .i64 f3, .int .i64 f4_0, .int .i64 f4_1, .slice B5 m5 k5, .slice A6 n6 c6, .int .i64 f7, .int .i64 f8, .int .i64 f9, .int .i64 f10] ((w5.setCell ⟨w.heap.size + 1 + 1, 6, none⟩ (.slice B5 m5 k5)).alloc (.cells #[] 89))) := Lib.hid (X7.out.low (((Below.refl _ _).alloc (Nat.le_refl _) (.cells #[] 89)).mono X7.out.2.2.2.2))
  have hs7 := X6.out.2.2.2.2
  have O2' := Lib.hid ((O2.out.touch ((Touch.refl (fun b => b = w.heap.size + 1 + 1) w5).setCell (p := ⟨w.heap.size + 1 + 1, 6, none⟩) rfl (.slice B5 m5 k5)) (fun b hb e => by have h1 := hb.1; omega)).below ((Below.refl _ _).alloc (Nat.le_refl _) (.cells #[] 89)))
  have O5' := Lib.hid ((O5.out.touch ((Touch.refl (fun b => b = w.heap.size + 1 + 1) w5).setCell (p := ⟨w.heap.size + 1 + 1, 6, none⟩) rfl (.slice B5 m5 k5)) (fun b hb e => by have h1 := hb.1; omega)).below ((Below.refl _ _).alloc (Nat.le_refl _) (.cells #[] 89)))
  clear O2 O5
  have z7 : ∀ o, ((w5.setCell ⟨w.heap.size + 1 + 1, 6, none⟩ (.slice B5 m5 k5)).alloc o).cell? ⟨w.heap.size, 7, none⟩ = some (.slice A6 n6 c6) := fun o => (X7.out.low (((Below.refl _ _).alloc (Nat.le_refl _) o).mono X7.out.2.2.2.2)).2.1.2 7 _ rfl
  go_wp2_with (first
    | (refine wpList_append_dat _ rfl _ _ 28 rfl 2 (by omega) 89 i1 _ 16 Try.underlying28 hj hy0 hy1 rfl hy2 (w5.heap.size) _ 0 0 [] _ rfl G7.out A6 n6 c6 L6 (fun _ => False) rfl (Src.of_lies (HL6.out.below B7.out) (fun x hx => (HT6.out x hx).width) (fun x hx => flatAsker (HT6.out x hx))) (fun b h => h.elim) (fun a e h => h) (by unfold maxLen; omega) (by omega) (by first | (simp; done) | (simp only [World.size_alloc, World.size_setCell]; omega)) ?_; intro B6 k6 w9 hG hT hA; (have HO6 := Lib.hid (GrowObj hG)); (have hb8 := hT.below (B := w5.heap.size) (fun b ⟨a, e, hb⟩ => by obtain rfl := Option.some.inj e; rw [hb]; exact Nat.le_refl _) (by first | (simp; done) | (simp only [World.size_alloc, World.size_setCell]; omega))); clear hG hT hA; (have X9 := Lib.hid (X8.out.low (hb8.mono hs7))); (have hs9 := hb8.size); simp only [World.size_alloc, World.size_setCell] at hs9; (have P2 := Lib.hid (O2'.out.same (fun b hb hlt => hb8.block b (by have h1 := hb.2; omega)))); (have P5 := Lib.hid (O5'.out.same (fun b hb hlt => hb8.block b (by have h1 := hb.2; omega)))); clear hb8 X6 X7 X8 B7 G7 O2' O5' x0 y0 x1 y1 x2 y2 x3 y3 x4 y4 x5 y5 x6 y6 x7 y7 x8 y8 x9 y9 x10 y10 x11 y11 fy z7; have x0 := X9.out.2.1.2 0 (.int .i64 f0) rfl; have x1 := X9.out.2.1.2 1 (.int .i64 f1) rfl; have x2 := X9.out.2.1.2 2 (.slice A2 n2 c2) rfl; have x3 := X9.out.2.1.2 3 (.int .i64 f3) rfl; have x4 := X9.out.2.1.2 4 (.int .i64 f4_0) rfl; have x5 := X9.out.2.1.2 5 (.int .i64 f4_1) rfl; have x6 := X9.out.2.1.2 6 (.slice A5 n5 c5) rfl; have x7 := X9.out.2.1.2 7 (.slice A6 n6 c6) rfl; have x8 := X9.out.2.1.2 8 (.int .i64 f7) rfl; have x9 := X9.out.2.1.2 9 (.int .i64 f8) rfl; have x10 := X9.out.2.1.2 10 (.int .i64 f9) rfl; have x11 := X9.out.2.1.2 11 (.int .i64 f10) rfl; have y0 := X9.out.2.2.2.1.1.2 0 (.int .i64 f0) rfl; have y1 := X9.out.2.2.2.1.1.2 1 (.int .i64 f1) rfl; have y2 := X9.out.2.2.2.1.1.2 2 (.slice B2 n2 k2) rfl; have y3 := X9.out.2.2.2.1.1.2 3 (.int .i64 f3) rfl; have y4 := X9.out.2.2.2.1.1.2 4 (.int .i64 f4_0) rfl; have y5 := X9.out.2.2.2.1.1.2 5 (.int .i64 f4_1) rfl; have y6 := X9.out.2.2.2.1.1.2 6 (.slice B5 m5 k5) rfl; have y7 := X9.out.2.2.2.1.1.2 7 (.slice A6 n6 c6) rfl; have y8 := X9.out.2.2.2.1.1.2 8 (.int .i64 f7) rfl; have y9 := X9.out.2.2.2.1.1.2 9 (.int .i64 f8) rfl; have y10 := X9.out.2.2.2.1.1.2 10 (.int .i64 f9) rfl; have y11 := X9.out.2.2.2.1.1.2 11 (.int .i64 f10) rfl; have fy := X9.out.2.2.2.1.2; (obtain ⟨q0, q1, q2, q3, q4, q5, q6, q7, q8, q9, q10, q11⟩ := X9.out.2.2.1.1.c12); (have fq := X9.out.2.2.1.2))
    | fail)
  refine bodyPost_ret (v := .agg #[.int .i64 f0, .int .i64 f1, .slice B2 n2 k2, .int .i64 f3, .int .i64 f4_0, .int .i64 f4_1, .slice B5 m5 k5, .slice B6 n6 k6, .int .i64 f7, .int .i64 f8, .int .i64 f9, .int .i64 f10]) ?hres rfl ?hpost
  case hres => exact results_box rfl _ _ (w.heap.size + 1) [.int .i64 f0, .int .i64 f1, .slice B2 n2 k2, .int .i64 f3, .int .i64 f4_0, .int .i64 f4_1, .slice B5 m5 k5, .slice B6 n6 k6, .int .i64 f7, .int .i64 f8, .int .i64 f9, .int .i64 f10] _ rfl ((((((((((((((X9.out.2.2.1.1).far (by omega) _).put 0 _).put 1 _).put 2 _).put 3 _).put 4 _).put 5 _).put 6 _).put 7 _).put 8 _).put 9 _).put 10 _).put 11 _) Try.underlying30 rfl (by kernel_rfl)
  case hpost =>
    have l1 : w.heap.size ≤ w.heap.size + 1 := by omega
    have l2 : w.heap.size ≤ w.heap.size + 1 + 1 := by omega
    have h3 := X9.out.2.2.2.2
    suffices h9 : ∀ w' : World, Touch (fun b => b = w.heap.size + 1 ∨ b = w.heap.size + 1 + 1) w9 w' → Below w.heap.size w w' → GivesCopy f0 f1 L2 n2 f3 f4_0 f4_1 L5 L6 n6 f7 f8 f9 f10 w (.returned (.agg #[.int .i64 f0, .int .i64 f1, .slice B2 n2 k2, .int .i64 f3, .int .i64 f4_0, .int .i64 f4_1, .slice B5 m5 k5, .slice B6 n6 k6, .int .i64 f7, .int .i64 f8, .int .i64 f9, .int .i64 f10])) w' from h9 _ ((((((((((((((Touch.refl (fun b => b = w.heap.size + 1 ∨ b = w.heap.size + 1 + 1) w9).setCell (Or.inr rfl) _).setCell (Or.inl rfl) _).setCell (Or.inl rfl) _).setCell (Or.inl rfl) _).setCell (Or.inl rfl) _).setCell (Or.inl rfl) _).setCell (Or.inl rfl) _).setCell (Or.inl rfl) _).setCell (Or.inl rfl) _).setCell (Or.inl rfl) _).setCell (Or.inl rfl) _).setCell (Or.inl rfl) _).setCell (Or.inl rfl) _) (((((((((((((X9.out.1.setCell l2 _).setCell l1 _).setCell l1 _).setCell l1 _).setCell l1 _).setCell l1 _).setCell l1 _).setCell l1 _).setCell l1 _).setCell l1 _).setCell l1 _).setCell l1 _).setCell l1 _)
    intro w' hT9 hB9
    refine ⟨B2, k2, B5, m5, k5, B6, k6, rfl, ?_, ?_, ?_, hB9⟩
    · exact (P2.out.touch hT9 (fun b hb hS => by have h1 := hb.1; rcases hS with h | h <;> omega)).mono (fun b hb => by have h1 := hb.1; omega)
    · exact (P5.out.touch hT9 (fun b hb hS => by have h1 := hb.1; rcases hS with h | h <;> omega)).mono (fun b hb => by have h1 := hb.1; omega)
    · exact (HO6.out.touch hT9 (fun b hb hS => by have h1 := hb.1; rcases hS with h | h <;> omega)).mono (fun b hb => by have h1 := hb.1; omega)
end Go.Proofs.Ytfgijebgnkikpaa
