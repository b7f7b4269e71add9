/- Draws of chapter 6: l6Copy, DrawMethodOf, DrawIsLibrary, DrawEqualScripts. -/
import Derived.Test.YtgibhbplgiejpaaGreatDraw6L
import Derived.Test.YtgibhbplgiejpaaGreatBase
namespace Go.Proofs.YtgibhbplgiejpaaGreat
open Go.RowKit
set_option linter.unusedVariables false
set_option linter.unusedSimpArgs false
theorem Left.of_below {Bc g : Nat} {w w' : World} (hc : Cur w Bc g) (hb : Below w.heap.size w w') : Left Bc g w w' := ⟨hc.low hb hc.lt, Turn.of_below hb⟩
theorem DrewG.low {Bc g : Nat} {E : TypeId} {k : Nat} {P : ByteArray → List Dat → Prop} {w w1 w' : World} {e : Ending} (h : DrewG Bc g E k P w1 e w') (hL : Left Bc g w w1) : DrewG Bc g E k P w e w' := by
  obtain ⟨nm, A, n, c, L, Bs, he, hG, hB, hP, hl⟩ := h
  have hs := hL.2.size
  exact ⟨nm, A, n, c, L, Bs, he, hG.less hs, fun b hb => Nat.le_trans hs (hB b hb), hP, hL.trans hl⟩
theorem take_next {L : List Dat} {i : Nat} {d : Dat} (h : L[i]? = some d) : L.take (i + 1) = L.take i ++ [d] := by rw [List.take_add_one, h]; rfl
def CopyOf (nm : ByteArray) (L : List Dat) (nm' : ByteArray) (L' : List Dat) : Prop := nm' = nm ∧ L' = L
theorem Code.low6 {w w' : World} {A : Option Addr} {n : Nat} (h : Code w A n) (hb : Below w.heap.size w w') : Code w' A n := by
  obtain ⟨zs, h1, h2, h3, h4⟩ := h
  exact ⟨zs, h1, h2, h3, (h4.below hb).more hb.size⟩
/-- A library, an index, a name. -/
def DrewMO (w : World) (e : Ending) (w' : World) : Prop := ∃ (L : List Dat) (A : Option Addr) (n c : Nat) (i : Int) (s : ByteArray), e = .returned (.tuple #[.slice A n c, .int .i64 i, .string s]) ∧ Lies w' (.l L) [.slice A n c] ∧ ScrsOk 7 L ∧ s.size ≤ 8 ∧ Below w.heap.size w w'
theorem OwnsAll.cons_ {w : World} {d : Dat} {ds : List Dat} {xs ys : List Value} {B1 : Nat → Prop} {lo mid hi : Nat} (h : Owns w d xs B1) (h1 : ∀ b, B1 b → lo ≤ b ∧ b < mid) (h2 : OwnsAll w ds ys (fun b => mid ≤ b ∧ b < hi)) (hl : lo ≤ mid) (hm : mid ≤ hi) : OwnsAll w (d :: ds) (xs ++ ys) (fun b => lo ≤ b ∧ b < hi) := by
  rw [OwnsAll]
  exact ⟨xs, ys, B1, (fun b => mid ≤ b ∧ b < hi), rfl, fun b h => ⟨(h1 b h).1, by have := (h1 b h).2; omega⟩, fun b h => ⟨by omega, h.2⟩, fun b h h3 => by have := (h1 b h).2; omega, h, h2⟩
theorem OwnsAll.nil_ (w : World) (B : Nat → Prop) : OwnsAll w [] [] B := by rw [OwnsAll]
/-- Cells of a new block, as a source. -/
theorem Src.lits {w : World} {k m : Nat} {L : List Dat} {xs : List Value} {C : Array Value} {B : Nat → Prop} {E : TypeId} (hC : C.toList = xs) (ho : OwnsAll w L xs B) (hL : L.length = m) (hw : ∀ x ∈ L, x.width = k) (hB : ∀ b, B b → b < w.heap.size) : Src k (w.alloc (.cells C E)) (some ⟨w.heap.size, 0, none⟩) m L B := by
  have hb : Below w.heap.size w (w.alloc (.cells C E)) := (Below.refl _ _).alloc (Nat.le_refl _) _
  refine ⟨xs, Or.inr ⟨w.heap.size, 0, rfl, by simp, fun j v hj => ?_⟩, ho.same (fun b h hlt => hb.block b hlt), hL, hw, fun b h => Nat.lt_of_lt_of_le (hB b h) hb.size⟩
  rw [Nat.zero_add, cell_of_row _ w.heap.size j C E (0, 0) (by show (w.heap.push _)[w.heap.size]? = _; simp)]
  subst hC
  simpa using hj
/-- A library. -/
def DrewLib (w : World) (e : Ending) (w' : World) : Prop := ∃ (L : List Dat) (A : Option Addr) (n c : Nat), e = .returned (.slice A n c) ∧ Lies w' (.l L) [.slice A n c] ∧ ScrsOk 7 L ∧ Below w.heap.size w w'
theorem infoScr : (Tryz.prog.info? 37).map (fun i => (i.zero, i.size, i.bytes)) = some (some (.agg #[.string ⟨#[]⟩, .slice none 0 0]), 2, 40) := by kernel_rfl
theorem DrewLib.of_touch {W w5 w8 : World} {lo : Nat} {E k : Nat} {A A8 : Option Addr} {n n8 c c8 : Nat} {L M : List Dat} {Bs B8 : Nat → Prop} (hG : Grow E k lo w5 A n c L Bs) (h8 : Grow E k lo w8 A8 n8 c8 M B8) (hT : Touch (fun b => ∃ a, A = some a ∧ b = a.block) w5 w8) (hM : ScrsOk 7 M) (hb : Below W.heap.size W w5) (hlo : W.heap.size ≤ lo) : DrewLib W (.returned (.slice A8 n8 c8)) w8 :=
  ⟨M, A8, n8, c8, rfl, h8.owns.lies, hM, hb.trans (hT.below (fun b ⟨a, e, hb⟩ => by subst hb; exact Nat.le_trans hlo (hG.blk a e).1) hb.size)⟩
/-- Two scripts. -/
def DrewTwo (w : World) (e : Ending) (w' : World) : Prop := ∃ (f0 : ByteArray) (L0 : List Dat) (A0 : Option Addr) (n0 c0 : Nat) (f1 : ByteArray) (L1 : List Dat) (A1 : Option Addr) (n1 c1 : Nat), e = .returned (.tuple #[.agg #[.string f0, .slice A0 n0 c0], .agg #[.string f1, .slice A1 n1 c1]]) ∧
  Lies w' (.l L0) [.slice A0 n0 c0] ∧ Lies w' (.l L1) [.slice A1 n1 c1] ∧ f0.size ≤ 8 ∧ MethsOk 6 L0 ∧ f1.size ≤ 8 ∧ MethsOk 6 L1 ∧ Below w.heap.size w w'
/-- Both results' boxes. -/
def Res2 (w w' : World) : Prop := Zb w.heap.size w.heap.size [.string ⟨#[]⟩, .slice none 0 0] w' ∧ Zb w.heap.size (w.heap.size + 1) [.string ⟨#[]⟩, .slice none 0 0] w'
theorem Res2.start (w : World) (T U : TypeId) : Res2 w ((w.alloc (.cells #[.string ⟨#[]⟩, .slice none 0 0] T)).alloc (.cells #[.string ⟨#[]⟩, .slice none 0 0] U)) := by
  have hz := Zb.new (B := w.heap.size) (w.alloc (.cells #[.string ⟨#[]⟩, .slice none 0 0] T)) #[.string ⟨#[]⟩, .slice none 0 0] U (by simp)
  rw [World.size_alloc] at hz
  exact ⟨(Zb.new w #[.string ⟨#[]⟩, .slice none 0 0] T (Nat.le_refl _)).below ((Below.refl _ _).alloc (Nat.le_refl _) _), hz⟩
theorem Res2.below {w w1 w2 : World} (h : Res2 w w1) (hb : Below w1.heap.size w1 w2) : Res2 w w2 := ⟨h.1.below hb, h.2.below hb⟩
theorem Res2.turn {w w1 w2 : World} {g : Nat} (h : Res2 w w1) (ht : Turn g w1 w2) (hg : w.heap.size + 1 < g) : Res2 w w2 := ⟨h.1.turn ht (by omega), h.2.turn ht (by omega)⟩
/-- Both results are written. -/
theorem Res2.done {w w1 : World} (h : Res2 w w1) (a b c d : Value) : Box w.heap.size [a, b] ((((w1.setCell ⟨w.heap.size, 0, none⟩ a).setCell ⟨w.heap.size, 1, none⟩ b).setCell ⟨w.heap.size + 1, 0, none⟩ c).setCell ⟨w.heap.size + 1, 1, none⟩ d) ∧
    Box (w.heap.size + 1) [c, d] ((((w1.setCell ⟨w.heap.size, 0, none⟩ a).setCell ⟨w.heap.size, 1, none⟩ b).setCell ⟨w.heap.size + 1, 0, none⟩ c).setCell ⟨w.heap.size + 1, 1, none⟩ d) ∧
    Touch (fun i => i = w.heap.size ∨ i = w.heap.size + 1) w1 ((((w1.setCell ⟨w.heap.size, 0, none⟩ a).setCell ⟨w.heap.size, 1, none⟩ b).setCell ⟨w.heap.size + 1, 0, none⟩ c).setCell ⟨w.heap.size + 1, 1, none⟩ d) := by
  refine ⟨((h.1.2.1.two a b).far (by omega) c).far (by omega) d, ((h.2.2.1.far (by omega) a).far (by omega) b).two c d, ?_⟩
  exact ((((Touch.refl _ w1).setCell (p := ⟨w.heap.size, 0, none⟩) (Or.inl rfl) a).setCell (p := ⟨w.heap.size, 1, none⟩) (Or.inl rfl) b).setCell (p := ⟨w.heap.size + 1, 0, none⟩) (Or.inr rfl) c).setCell (p := ⟨w.heap.size + 1, 1, none⟩) (Or.inr rfl) d
theorem Res2.free {w w1 : World} (h : Res2 w w1) : (w1.cell? ⟨w.heap.size, 0, none⟩ = some (.string ⟨#[]⟩) ∧ w1.cell? ⟨w.heap.size, 1, none⟩ = some (.slice none 0 0)) ∧ (w1.cell? ⟨w.heap.size + 1, 0, none⟩ = some (.string ⟨#[]⟩) ∧ w1.cell? ⟨w.heap.size + 1, 1, none⟩ = some (.slice none 0 0)) ∧ (w1.frozen? ⟨w.heap.size, 0, none⟩ = false ∧ w1.frozen? ⟨w.heap.size, 1, none⟩ = false) ∧ (w1.frozen? ⟨w.heap.size + 1, 0, none⟩ = false ∧ w1.frozen? ⟨w.heap.size + 1, 1, none⟩ = false) :=
  ⟨⟨h.1.two.1, h.1.two.2.1⟩, ⟨h.2.two.1, h.2.two.2.1⟩, h.1.two.2.2, h.2.two.2.2⟩
theorem DrewTwo.mk_ {w w5 : World} {f0 f1 : ByteArray} {L0 L1 : List Dat} {A0 A1 : Option Addr} {n0 c0 n1 c1 : Nat} {B0 B1 : Nat → Prop} (h0 : Owns w5 (.l L0) [.slice A0 n0 c0] B0) (h1 : Owns w5 (.l L1) [.slice A1 n1 c1] B1) (hB0 : ∀ b, B0 b → w.heap.size + 1 < b) (hB1 : ∀ b, B1 b → w.heap.size + 1 < b)
    (hR : Res2 w w5) (hf0 : f0.size ≤ 8) (hk0 : MethsOk 6 L0) (hf1 : f1.size ≤ 8) (hk1 : MethsOk 6 L1) (hb : Below w.heap.size w w5) (a b c d : Value) :
    DrewTwo w (.returned (.tuple #[.agg #[.string f0, .slice A0 n0 c0], .agg #[.string f1, .slice A1 n1 c1]])) ((((w5.setCell ⟨w.heap.size, 0, none⟩ a).setCell ⟨w.heap.size, 1, none⟩ b).setCell ⟨w.heap.size + 1, 0, none⟩ c).setCell ⟨w.heap.size + 1, 1, none⟩ d) := by
  have ht := (hR.done a b c d).2.2
  exact ⟨f0, L0, A0, n0, c0, f1, L1, A1, n1, c1, rfl, (h0.touch ht (fun i hi e => by have := hB0 i hi; omega)).lies, (h1.touch ht (fun i hi e => by have := hB1 i hi; omega)).lies, hf0, hk0, hf1, hk1, hb.trans (ht.below (fun i e => by omega) hb.size)⟩
theorem Left.al {B g : Nat} {w w' : World} (h : Left B g w w') (o : Obj) : Left B g w (w'.alloc o) := ⟨h.1.alloc' o, h.2.alloc o⟩
theorem keep0 {v : Nat} {x y : Value} {w : World} (h : Box v [x, y] w) : w.cell? ⟨v, 0, none⟩ = some x ∧ w.cell? ⟨v, 1, none⟩ = some y := ⟨h.2 0 _ rfl, h.2 1 _ rfl⟩
theorem keep1 {v t : Nat} {x y : Value} {w : World} (h : Box v [x, y] w) (ht : t ≠ v) (a b : Value) : ((w.setCell ⟨t, 0, none⟩ a).setCell ⟨t, 1, none⟩ b).cell? ⟨v, 0, none⟩ = some x ∧ ((w.setCell ⟨t, 0, none⟩ a).setCell ⟨t, 1, none⟩ b).cell? ⟨v, 1, none⟩ = some y := keep0 ((h.far ht a).far ht b)
theorem keep2 {v t s : Nat} {x y : Value} {w : World} (h : Box v [x, y] w) (ht : t ≠ v) (hs : s ≠ v) (a b c d : Value) : ((((w.setCell ⟨t, 0, none⟩ a).setCell ⟨t, 1, none⟩ b).setCell ⟨s, 0, none⟩ c).setCell ⟨s, 1, none⟩ d).cell? ⟨v, 0, none⟩ = some x ∧ ((((w.setCell ⟨t, 0, none⟩ a).setCell ⟨t, 1, none⟩ b).setCell ⟨s, 0, none⟩ c).setCell ⟨s, 1, none⟩ d).cell? ⟨v, 1, none⟩ = some y := keep0 ((((h.far ht a).far ht b).far hs c).far hs d)
end Go.Proofs.YtgibhbplgiejpaaGreat
