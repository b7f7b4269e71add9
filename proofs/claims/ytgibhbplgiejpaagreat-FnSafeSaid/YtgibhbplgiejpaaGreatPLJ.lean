/- The program's ParseLibrary. -/
import Derived.Test.YtgibhbplgiejpaaGreatPLI
import Derived.Test.YtgibhbplgiejpaaGreatFrmA
namespace Go.Proofs.YtgibhbplgiejpaaGreat
open Go.RowKit
set_option linter.unusedVariables false
set_option linter.unusedSimpArgs false
theorem readP_next {ws : List (List UInt8)} {i : Nat} {x : List UInt8} (h : ws[i]? = some x) : readP (ws.take (i + 1)) = lineP (readP (ws.take i)) x := by
  rw [readP, List.take_add_one, h, List.foldl_append]
  rfl
theorem readP_few (ws : List (List UInt8)) : ∀ i, Few i (readP (ws.take i))
  | 0 => ⟨Nat.le_refl _, fun s hs => by cases hs⟩
  | i + 1 => by
    cases h : ws[i]? with
    | none =>
      rw [List.take_add_one, h]
      have h1 := readP_few ws i
      simp only [Option.toList, List.append_nil]
      exact ⟨Nat.le_succ_of_le h1.1, fun s hs => ⟨Nat.le_succ_of_le (h1.2 s hs).1, fun m hm => Nat.le_succ_of_le ((h1.2 s hs).2 m hm)⟩⟩
    | some x => rw [readP_next h]; exact lineP_few (readP_few ws i) x
theorem readP_fit {ws : List (List UInt8)} {q : Nat} (hl : ∀ x ∈ ws, x.length ≤ q) : ∀ i, Fit q (readP (ws.take i))
  | 0 => fun s hs => by cases hs
  | i + 1 => by
    cases h : ws[i]? with
    | none =>
      rw [List.take_add_one, h]
      simp only [Option.toList, List.append_nil]
      exact readP_fit hl i
    | some x => rw [readP_next h]; exact lineP_fit (readP_fit hl i) (hl x (List.mem_of_getElem? h))
theorem lineP_head {l : List UInt8} {L : List Scr} (h : isHead scriptW l = true) : lineP L l = L ++ [⟨⟨(l.drop 7).toArray⟩, []⟩] := by rw [lineP, if_pos h]
theorem lineP_nil {l : List UInt8} (h : isHead scriptW l = false) : lineP [] l = [] := by rw [lineP, if_neg (by rw [h]; decide)]; rfl
theorem lineP_snoc {l : List UInt8} {L : List Scr} {s : Scr} (h : isHead scriptW l = false) : lineP (L ++ [s]) l = L ++ [⟨s.name, putM l s.ms⟩] := by
  rw [lineP, if_neg (by rw [h]; decide)]
  exact modLast_snoc _ s L
/-- All that is owned lies from lo on. -/
def LibO (w : World) (A : Option Addr) (n c : Nat) (L : List Scr) (wr : World) : Prop := LibG w.heap.size wr A n c L (fun b => w.heap.size ≤ b ∧ b < wr.heap.size) ∧ Below w.heap.size w wr
/-- A library comes back. -/
def GivesLib (L : List Scr) (w : World) (e : Ending) (w' : World) : Prop := ∃ A n c, e = .returned (.slice A n c) ∧ LibO w A n c L w'
theorem LibO.below {w wr w' : World} {A : Option Addr} {n c : Nat} {L : List Scr} (h : LibO w A n c L wr) (hb : Below wr.heap.size wr w') : LibO w A n c L w' :=
  ⟨(h.1.below hb).mono (fun b h1 => ⟨h1.1, Nat.lt_of_lt_of_le h1.2 hb.size⟩), h.2.trans (hb.mono h.2.size)⟩
theorem LibO.put {w wr w' : World} {A A' : Option Addr} {n n' c c' : Nat} {L L' : List Scr} (h : LibO w A n c L wr) (hG : LibG w.heap.size w' A' n' c' L' (more (fun b => w.heap.size ≤ b ∧ b < wr.heap.size) wr w')) (ht : Touch (fun b => w.heap.size ≤ b ∧ b < wr.heap.size) wr w') : LibO w A' n' c' L' w' := by
  have h1 := h.2.size
  have h2 := ht.size
  refine ⟨hG.mono (fun b hb => ?_), h.2.trans (ht.below (fun b hb => hb.1) h1)⟩
  rcases hb with hb | hb
  · exact ⟨hb.1, by omega⟩
  · exact ⟨by omega, hb.2⟩
theorem putL {lo n c g k : Nat} {w w4 : World} {A A2 : Option Addr} {n2 c2 : Nat} {B Bx : Nat → Prop} {init : List Scr} {nm : ByteArray} {ms : List Meth} (hBx : ∀ b, Bx b → B b ∧ b ≠ g ∧ b < w.heap.size) (hBg : B g)
    (hput : ∀ (w' : World) (A2 : Option Addr) (n2 c2 : Nat) (ms : List Meth) (Bx' : Nat → Prop), Touch Bx w w' → MetG lo w' A2 n2 c2 ms Bx' → (∀ b, Bx' b → Bx b ∨ (w.heap.size ≤ b ∧ b < w'.heap.size)) → LibG lo (w'.setCell ⟨g, k * 2 + 1, none⟩ (.slice A2 n2 c2)) A n c (init ++ [⟨nm, ms⟩]) (more B w w'))
    (hG : MetG lo w4 A2 n2 c2 ms (more Bx w w4)) (hT : Touch Bx w w4) :
    LibG lo (w4.setCell ⟨g, k * 2 + 1, none⟩ (.slice A2 n2 c2)) A n c (init ++ [⟨nm, ms⟩]) (more B w (w4.setCell ⟨g, k * 2 + 1, none⟩ (.slice A2 n2 c2))) ∧ Touch B w (w4.setCell ⟨g, k * 2 + 1, none⟩ (.slice A2 n2 c2)) := by
  refine ⟨(hput w4 A2 n2 c2 ms _ hT hG (fun b hb => hb)).mono (fun b hb => ?_), (hT.mono (fun b hb => (hBx b hb).1)).setCell (by exact hBg) _⟩
  rcases hb with hb | hb
  · exact Or.inl hb
  · exact Or.inr ⟨hb.1, by simpa [World.setCell] using hb.2⟩
/-- A library comes back, or none. -/
def GivesPL (o : Option (List Scr)) (w : World) (e : Ending) (w' : World) : Prop :=
  ∃ A n c, e = .returned (.tuple #[.slice A n c, .bool o.isSome]) ∧ Owns w' (.l ((o.getD []).map datS)) [.slice A n c] (fun b => w.heap.size ≤ b ∧ b < w'.heap.size) ∧ Below w.heap.size w w'
theorem GivesPL.none_ {o : Option (List Scr)} {w w' : World} {A : Option Addr} {c : Nat} (h : o = none) (hb : Below w.heap.size w w') : GivesPL o w (.returned (.tuple #[.slice A 0 c, .bool false])) w' := by
  subst h
  refine ⟨A, 0, c, rfl, ?_, hb⟩
  show Owns w' (.l []) _ _
  rw [Owns]
  exact ⟨A, 0, c, rfl, rfl, Or.inl rfl⟩
/-- A library that the call owns. -/
def OwnL (w : World) (A : Option Addr) (n c : Nat) (L : List Scr) (wr : World) : Prop := Owns wr (.l (L.map datS)) [.slice A n c] (fun b => w.heap.size ≤ b ∧ b < wr.heap.size) ∧ Below w.heap.size w wr
theorem OwnL.below {w wr w' : World} {A : Option Addr} {n c : Nat} {L : List Scr} (h : OwnL w A n c L wr) (hb : Below wr.heap.size wr w') : OwnL w A n c L w' :=
  ⟨(h.1.below hb).mono (fun b h1 => ⟨h1.1, Nat.lt_of_lt_of_le h1.2 hb.size⟩), h.2.trans (hb.mono h.2.size)⟩
theorem LibO.own {w0 w wr : World} {A : Option Addr} {n c : Nat} {L : List Scr} (h : LibO w A n c L wr) (hb : Below w0.heap.size w0 w) : OwnL w0 A n c L wr :=
  ⟨h.1.owns.mono (fun b h1 => ⟨Nat.le_trans hb.size h1.1, h1.2⟩), hb.trans (h.2.mono hb.size)⟩
theorem GivesPL.some_ {o : Option (List Scr)} {L : List Scr} {w w' : World} {A : Option Addr} {n c : Nat} (h : o = some L) (hL : OwnL w A n c L w') : GivesPL o w (.returned (.tuple #[.slice A n c, .bool true])) w' := by
  subst h
  exact ⟨A, n, c, rfl, hL.1, hL.2⟩
theorem fmtL_ne {L : List Scr} {s : ByteArray} (h : fmtL L ≠ s.data.toList) : ¬ strB (fmtL L) = s := fun e => h (by rw [← e]; rfl)
end Go.Proofs.YtgibhbplgiejpaaGreat
