/- Chapter 12's marks, by program. -/
import Derived.Test.YtmeacgpebpfpbaaCom
import Derived.Deep.RegionHeld3
import Derived.LoopTactic
import Derived.Lib.Hide
import Derived.Deep.QuietTactic
import Derived.BigQuiet
import Derived.Deep.RegionWith
import Derived.Handy
namespace Go.Proofs.Ytmeacgpebpfpbaa
open Go.RowKit
set_option linter.unusedVariables false
set_option linter.unusedSimpArgs false
structure El (W : World) (g : Nat) (E : TypeId) (cur : Array Value) (o : Nat) (B Br : Nat → Prop) (xs : List Value) (w : World) : Prop where
  t : Touch B W w
  c : ∃ cur' : Array Value, w.heap[g]? = some (.cells cur' E (0, 0)) ∧ cur'.toList = setRange cur.toList o xs
  r : ∀ b, Br b → b < W.heap.size → w.heap[b]? = W.heap[b]?
theorem setRange_id {l xs : List Value} {o : Nat} (h : ∀ (j : Nat) (v : Value), xs[j]? = some v → l[o + j]? = some v) (ho : o + xs.length ≤ l.length) : setRange l o xs = l := by
  apply List.ext_getElem?
  intro j
  rw [setRange_at _ _ _ _ ho]
  by_cases e : o ≤ j ∧ j < o + xs.length
  · rw [if_pos e]
    have h1 : xs[j - o]? = some (xs[j - o]'(by omega)) := List.getElem?_eq_getElem (by omega)
    have h2 := h _ _ h1
    rw [show o + (j - o) = j by omega] at h2
    rw [h1, h2]
  · rw [if_neg e]
theorem setRange_set {l xs : List Value} {o j : Nat} (v : Value) (hj : j < xs.length) (ho : o + xs.length ≤ l.length) : (setRange l o xs).set (o + j) v = setRange l o (xs.set j v) := by
  apply List.ext_getElem?
  intro i
  rw [setRange_at _ _ _ _ (by rw [List.length_set]; exact ho), List.getElem?_set, setRange_len, setRange_at _ _ _ _ ho, List.length_set, List.getElem?_set]
  by_cases e : o + j = i
  · subst e
    rw [if_pos rfl, if_pos (by omega), if_pos (by omega), if_pos (by omega), if_pos hj]
  · rw [if_neg e]
    by_cases e2 : o ≤ i ∧ i < o + xs.length
    · rw [if_pos e2, if_pos e2, if_neg (by omega)]
    · rw [if_neg e2, if_neg e2]
section
variable {W w : World} {g o : Nat} {E : TypeId} {cur : Array Value} {B Br : Nat → Prop} {xs : List Value}
theorem El.start (hh : W.heap[g]? = some (.cells cur E (0, 0))) (ho : o + xs.length ≤ cur.size) (hc : ∀ (j : Nat) (v : Value), xs[j]? = some v → W.cell? ⟨g, o + j, none⟩ = some v) : El W g E cur o B Br xs W :=
  ⟨Touch.refl _ _, ⟨cur, hh, (setRange_id (fun j v hv => by have h1 := hc j v hv; rw [cell_of_row W g (o + j) cur _ (0, 0) hh] at h1; simpa using h1) (by simpa using ho)).symm⟩, fun _ _ _ => rfl⟩
theorem El.cell (h : El W g E cur o B Br xs w) (ho : o + xs.length ≤ cur.size) {j p : Nat} {v : Value} (hv : xs[j]? = some v) (hp : p = o + j) : w.cell? ⟨g, p, none⟩ = some v := by
  subst hp
  obtain ⟨cur', h1, h2⟩ := h.c
  have hj : j < xs.length := (List.getElem?_eq_some_iff.1 hv).1
  rw [cell_of_row w g (o + j) cur' _ (0, 0) h1]
  have h3 : cur'.toList[o + j]? = some v := by rw [h2, setRange_at _ _ _ _ (by simpa using ho), if_pos (by omega), show o + j - o = j by omega, hv]
  simpa using h3
theorem El.frozen (h : El W g E cur o B Br xs w) (p : Nat) : w.frozen? ⟨g, p, none⟩ = false := by
  obtain ⟨cur', h1, h2⟩ := h.c
  simp [World.frozen?, h1]
theorem El.store (h : El W g E cur o B Br xs w) (ho : o + xs.length ≤ cur.size) (hB : B g) (hr : ¬ Br g) {j p : Nat} (hj : j < xs.length) (hp : p = o + j) (v : Value) : El W g E cur o B Br (xs.set j v) (w.setCell ⟨g, p, none⟩ v) := by
  subst hp
  obtain ⟨cur', h1, h2⟩ := h.c
  refine ⟨h.t.setCell (p := ⟨g, o + j, none⟩) hB v, ⟨_, cell_set h1 v, ?_⟩, fun b hb hl => ?_⟩
  · rw [Array.toList_setIfInBounds, h2, setRange_set v hj (by simpa using ho)]
  · rw [Below.heap_setCell _ _ _ _ (fun e => hr (by have e1 : b = g := e; rw [← e1]; exact hb))]
    exact h.r b hb hl
theorem El.lt (h : El W g E cur o B Br xs w) : g < w.heap.size := by
  obtain ⟨cur', h1, -⟩ := h.c
  exact (Array.getElem?_eq_some_iff.1 h1).1
theorem El.below {w' : World} (h : El W g E cur o B Br xs w) (hb : Below w.heap.size w w') : El W g E cur o B Br xs w' := by
  obtain ⟨cur', h1, h2⟩ := h.c
  exact ⟨h.t.trans (Touch.of_below hb), ⟨cur', (hb.block g h.lt).trans h1, h2⟩, fun b hb' hl => (hb.block b (Nat.lt_of_lt_of_le hl h.t.size)).trans (h.r b hb' hl)⟩
theorem El.touch {w' : World} {P : Nat → Prop} (h : El W g E cur o B Br xs w) (ht : Touch P w w') (hP : ∀ b, P b → B b ∧ b ≠ g ∧ ¬ Br b) : El W g E cur o B Br xs w' := by
  obtain ⟨cur', h1, h2⟩ := h.c
  exact ⟨h.t.trans (ht.mono (fun b hb => (hP b hb).1)), ⟨cur', (ht.block g h.lt (fun hb => (hP g hb).2.1 rfl)).trans h1, h2⟩, fun b hb' hl => (ht.block b (Nat.lt_of_lt_of_le hl h.t.size) (fun hb => (hP b hb).2.2 hb')).trans (h.r b hb' hl)⟩
end
theorem Owns.far {w : World} {g p : Nat} {v : Value} {d : Dat} {cs : List Value} {P : Nat → Prop} (h : Owns w d cs P) (hg : ¬ P g) : Owns (w.setCell ⟨g, p, none⟩ v) d cs P := h.same (fun b hb _ => Below.heap_setCell _ _ _ _ (fun e => hg (by have e1 : b = g := e; rw [← e1]; exact hb)))
theorem OwnsAll.cut {w : World} {d : Dat} {ds : List Dat} {c1 c2 : List Value} {B : Nat → Prop} (h : OwnsAll w (d :: ds) (c1 ++ c2) B) (hl : c1.length = d.width) : ∃ P Q : Nat → Prop, Owns w d c1 P ∧ OwnsAll w ds c2 Q ∧ (∀ b, P b → B b) ∧ (∀ b, Q b → B b) ∧ (∀ b, P b → ¬ Q b) := by
  rw [OwnsAll] at h
  obtain ⟨a1, a2, P, Q, e, hP, hQ, hd, h1, h2⟩ := h
  have hl1 : a1.length = d.width := h1.lies.len
  obtain ⟨e1, e2⟩ := List.append_inj e (by rw [hl, hl1])
  subst e1 e2
  exact ⟨P, Q, h1, h2, hP, hQ, hd⟩
theorem OwnsAll.consP {w : World} {d : Dat} {ds : List Dat} {c1 c2 : List Value} {P Q : Nat → Prop} (h : Owns w d c1 P) (k : OwnsAll w ds c2 Q) (hd : ∀ b, P b → ¬ Q b) : OwnsAll w (d :: ds) (c1 ++ c2) (fun b => P b ∨ Q b) := by
  rw [OwnsAll]
  exact ⟨c1, c2, P, Q, rfl, fun b hb => Or.inl hb, fun b hb => Or.inr hb, hd, h, k⟩
theorem cons_eq {α : Type} {a b : α} {l m : List α} (h : a = b) (k : l = m) : a :: l = b :: m := by rw [h, k]
theorem len_le_cntD : ∀ {L : List Dat}, (∀ x ∈ L, 1 ≤ x.cnt) → L.length ≤ cntAll L
  | [], _ => Nat.zero_le _
  | d :: L, h => by rw [List.length_cons, cntAll]; have h1 := h d (by simp); have h2 := len_le_cntD (fun x hx => h x (List.mem_cons_of_mem _ hx)); omega
end Go.Proofs.Ytmeacgpebpfpbaa
