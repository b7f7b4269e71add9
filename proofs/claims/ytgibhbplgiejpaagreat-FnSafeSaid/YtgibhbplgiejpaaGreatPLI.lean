/- The program's ParseLibrary: a line put behind. -/
import Derived.Test.YtgibhbplgiejpaaGreatLibW
import Derived.Test.YtgibhbplgiejpaaGreatPrsA
import Derived.Deep.RegionLaw
namespace Go.Proofs.YtgibhbplgiejpaaGreat
open Go.RowKit
set_option linter.unusedVariables false
set_option linter.unusedSimpArgs false
def cutB (w : List UInt8) (s : ByteArray) : ByteArray := if isHead w s.data.toList then ⟨(s.data.toList.drop 7).toArray⟩ else s
/-- A cut line comes back, and nothing turns. -/
def GivesC (w : List UInt8) (s : ByteArray) (W : World) (e : Ending) (w' : World) : Prop := e = .returned (.tuple #[.string (cutB w s), .bool (isHead w s.data.toList)]) ∧ W = w'
theorem cut_eq (w : List UInt8) (hw : w.length = 6) (s : ByteArray) : (⟨(Lib.trimPrefix s.data.toList (w ++ [32])).toArray⟩ : ByteArray) = cutB w s := by
  unfold cutB
  cases h : isHead w s.data.toList with
  | true =>
    have h' : Lib.hasPrefix s.data.toList (w ++ [32]) = true := h
    unfold Lib.trimPrefix
    rw [if_pos h', if_pos rfl]
    simp [hw]
  | false =>
    have h' : Lib.hasPrefix s.data.toList (w ++ [32]) = false := h
    unfold Lib.trimPrefix
    rw [if_neg (by rw [h']; decide), if_neg (by decide)]
theorem cutB_yes {w : List UInt8} {s : ByteArray} (h : isHead w s.data.toList = true) : cutB w s = ⟨(s.data.toList.drop 7).toArray⟩ := if_pos h
/-- A row of methods comes back. -/
def GivesMet (lo : Nat) (B : Nat → Prop) (ms : List Meth) (w : World) (e : Ending) (w' : World) : Prop := ∃ A n c, e = .returned (.slice A n c) ∧ MetG lo w' A n c ms (more B w w') ∧ Touch B w w'
theorem putM_head {l : List UInt8} {ms : List Meth} (h : isHead methodW l = true) : putM l ms = ms ++ [⟨⟨(l.drop 7).toArray⟩, []⟩] := by rw [putM, if_pos h]
theorem putM_none {l : List UInt8} {ms : List Meth} (h : isHead methodW l = false) (hp : parseI l = none) : putM l ms = ms := by rw [putM, if_neg (by rw [h]; decide), hp]
theorem putM_nil {l : List UInt8} {x : I} (h : isHead methodW l = false) (hp : parseI l = some x) : putM l [] = [] := by rw [putM, if_neg (by rw [h]; decide), hp]; rfl
theorem putM_snoc {l : List UInt8} {x : I} {ms : List Meth} {m : Meth} (h : isHead methodW l = false) (hp : parseI l = some x) : putM l (ms ++ [m]) = ms ++ [⟨m.name, m.code ++ [x]⟩] := by
  rw [putM, if_neg (by rw [h]; decide), hp]
  exact modLast_snoc (codeP x) m ms
theorem GivesMet.same {lo : Nat} {B : Nat → Prop} {ms ms' : List Meth} {w w' : World} {A : Option Addr} {n c : Nat} (h : MetG lo w A n c ms B) (e : ms' = ms) (hb : Below w.heap.size w w') : GivesMet lo B ms' w (.returned (.slice A n c)) w' := by
  subst e
  exact ⟨A, n, c, rfl, (h.below hb).mono (fun b hb => Or.inl hb), Touch.of_below hb⟩
theorem snoc_cases {α : Type} (L : List α) : L = [] ∨ ∃ init x, L = init ++ [x] := by
  rcases List.eq_nil_or_concat L with h | ⟨i, x, h⟩
  · exact Or.inl h
  · exact Or.inr ⟨i, x, by rw [h, List.concat_eq_append]⟩
theorem below_da (w : World) (o : Obj) : Below w.heap.size w (w.drew.alloc o) := (show Below w.heap.size w w.drew from (Below.refl _ _).drew).alloc (Nat.le_refl _) o
theorem below_ad (w : World) (o : Obj) : Below w.heap.size w (w.alloc o).drew := (show Below w.heap.size w (w.alloc o) from (Below.refl _ _).alloc (Nat.le_refl _) o).drew
theorem Touch.cell {S : Nat → Prop} {w w' : World} (h : Touch S w w') {p : Addr} (hp : p.block < w.heap.size) (hn : ¬ S p.block) : w'.cell? p = w.cell? p := World.cell?_of_block (h.block p.block hp hn)
theorem Touch.frozen {S : Nat → Prop} {w w' : World} (h : Touch S w w') {p : Addr} (hp : p.block < w.heap.size) (hn : ¬ S p.block) : w'.frozen? p = w.frozen? p := World.frozen?_of_block (h.block p.block hp hn)
/-- What is laid behind an append to the last method's code. -/
theorem put_code {lo n c g k n1 : Nat} {w o w8 : World} {A A8 : Option Addr} {B Bx : Nat → Prop} {init : List Meth} {nm : ByteArray} {code : List I} {x : I} {c8 : Nat} (ho : Below w.heap.size w o) (hBx : ∀ b, Bx b → B b ∧ b ≠ g ∧ b < w.heap.size) (hBg : B g)
    (hput : ∀ (w' : World) (A2 : Option Addr) (n2 c2 : Nat) (code : List I) (Bx' : Nat → Prop), Touch Bx w w' → CodG lo w' A2 n2 c2 code Bx' → (∀ b, Bx' b → Bx b ∨ (w.heap.size ≤ b ∧ b < w'.heap.size)) → MetG lo (w'.setCell ⟨g, k * 2 + 1, none⟩ (.slice A2 n2 c2)) A n c (init ++ [⟨nm, code⟩]) (more B w w'))
    (hG : CodG lo w8 A8 (n1 + 1) c8 (code ++ [x]) (fun b => Bx b ∨ (o.heap.size ≤ b ∧ b < w8.heap.size))) (hT : Touch Bx o w8) :
    GivesMet lo B (init ++ [⟨nm, code ++ [x]⟩]) w (.returned (.slice A n c)) (w8.setCell ⟨g, k * 2 + 1, none⟩ (.slice A8 (n1 + 1) c8)) := by
  have hT' : Touch Bx w w8 := (Touch.of_below ho).trans hT
  refine ⟨A, n, c, rfl, (hput w8 A8 (n1 + 1) c8 _ _ hT' hG (fun b hb => ?_)).mono (fun b hb => ?_), ?_⟩
  · rcases hb with hb | hb
    · exact Or.inl hb
    · exact Or.inr ⟨Nat.le_trans ho.size hb.1, hb.2⟩
  · rcases hb with hb | hb
    · exact Or.inl hb
    · exact Or.inr ⟨hb.1, by simpa [World.setCell] using hb.2⟩
  · exact (hT'.mono (fun b hb => (hBx b hb).1)).setCell (by exact hBg) _
theorem more_trans {B B' : Nat → Prop} {w w1 w2 : World} (h : w.heap.size ≤ w1.heap.size) (h2 : w1.heap.size ≤ w2.heap.size) (hB : ∀ b, B' b → more B w w1 b) : ∀ b, more B' w1 w2 b → more B w w2 b := fun b hb => by
  rcases hb with hb | hb
  · rcases hB b hb with h3 | h3
    · exact Or.inl h3
    · exact Or.inr ⟨h3.1, by omega⟩
  · exact Or.inr ⟨by omega, hb.2⟩
end Go.Proofs.YtgibhbplgiejpaaGreat
