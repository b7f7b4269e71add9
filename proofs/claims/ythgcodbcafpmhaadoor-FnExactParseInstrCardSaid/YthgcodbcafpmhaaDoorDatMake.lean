/- Of no program: a slice that was made, filled element by element. -/
import Derived.Test.YthgcodbcafpmhaaDoorDatOwn
import Derived.Laws.MakeOwn
namespace Go.Proofs.YthgcodbcafpmhaaDoor
open Go.RowKit
theorem flatten_at {α : Type} (xs : List α) : ∀ (n j : Nat), (List.replicate n xs).flatten[j]? = if j < n * xs.length then xs[j % xs.length]? else none
  | 0, j => by simp
  | n + 1, j => by
    rw [List.replicate_succ, List.flatten_cons]
    by_cases h : j < xs.length
    · rw [List.getElem?_append_left h, Nat.mod_eq_of_lt h, if_pos (by rw [Nat.add_mul]; omega)]
    · rw [List.getElem?_append_right (by omega), flatten_at xs n]
      have e : j % xs.length = (j - xs.length) % xs.length := by rw [Nat.mod_eq_sub_mod (by omega)]
      rw [e]
      by_cases h2 : j - xs.length < n * xs.length
      · rw [if_pos h2, if_pos (by rw [Nat.add_mul]; omega)]
      · rw [if_neg h2, if_neg (by rw [Nat.add_mul]; omega)]
theorem flat_made (z : Array Value) (n : Nat) : (madeCells z (n * z.size)).toList = (List.replicate n z.toList).flatten := by
  apply List.ext_getElem?
  intro j
  rw [flatten_at]
  by_cases hj : j < n * z.size
  · rw [if_pos (by simpa using hj)]
    have hz : 0 < z.size := by
      rcases Nat.eq_zero_or_pos z.size with h | h
      · rw [h] at hj; simp at hj
      · exact h
    have hm : j % z.size < z.size := Nat.mod_lt _ hz
    have hj2 : j < (madeCells z (n * z.size)).size := by rw [size_madeCells]; exact hj
    rw [Array.getElem?_toList, Array.getElem?_eq_getElem hj2]
    simp only [madeCells, Array.getElem_map, Array.getElem_range, Array.length_toList, Array.getElem?_toList]
    rw [Array.getElem?_eq_getElem hm, getElem!_pos z _ hm]
  · rw [if_neg (by simpa using hj), List.getElem?_eq_none (by rw [Array.length_toList, size_madeCells]; omega)]
theorem OwnsAll.zeros {w : World} {z : Dat} {zc : List Value} {B : Nat → Prop} (h : Owns w z zc (fun _ => False)) : ∀ n, OwnsAll w (List.replicate n z) (List.replicate n zc).flatten B
  | 0 => by rw [List.replicate_zero, List.replicate_zero, OwnsAll]; rfl
  | n + 1 => by
    rw [List.replicate_succ, List.replicate_succ, List.flatten_cons, OwnsAll]
    exact ⟨zc, _, (fun _ => False), B, rfl, fun b hb => hb.elim, fun b hb => hb, fun b hb => hb.elim, h, OwnsAll.zeros h n⟩
theorem Owns.made {w : World} {base : Nat} {E : TypeId} {n g : Nat} {z : Dat} {zc : Array Value} (hz : ∀ w, Owns w z zc.toList (fun _ => False)) (h : w.ownsRow base E zc.size (.slice (some ⟨g, 0, none⟩) n n) n (madeCells zc (n * zc.size)).toList) :
    Owns w (.l (List.replicate n z)) [.slice (some ⟨g, 0, none⟩) n n] (fun b => b = g) := by
  rcases h.2 with ⟨e, -⟩ | ⟨g', cap, cur, e, hb, hh, h1, h2, h3, h4⟩
  · cases e
  · simp only [Value.slice.injEq, Option.some.injEq, Addr.mk.injEq, and_true, true_and] at e
    obtain ⟨rfl, rfl⟩ := e
    have hw : z.width = zc.size := by rw [← (hz w).lies.len]; simp
    have hW : widthAll (List.replicate n z) = n * zc.size := by rw [widthAll_of (k := zc.size) (fun x hx => by rw [(List.mem_replicate.1 hx).2]; exact hw), List.length_replicate]
    rw [Owns]
    refine ⟨_, _, _, rfl, by simp, Or.inr ⟨g, E, cur, (fun _ => False), rfl, rfl, fun b hb => hb.elim, hh, by rw [hW, h3]; exact Nat.le_refl _, ?_⟩⟩
    rw [hW, h4, flat_made]
    exact OwnsAll.zeros (hz w) n
/-- The first i are there. -/
def UptoD (w : World) (k : Nat) (L : List Dat) (g n i : Nat) (wr : World) : Prop :=
  ∃ (ds : List Dat) (B : Nat → Prop), Owns wr (.l ds) [.slice (some ⟨g, 0, none⟩) n n] B ∧ ds.length = n ∧ (∀ j, j < i → ds[j]? = L[j]?) ∧ (∀ x ∈ ds, x.width = k) ∧ (∀ b, B b → w.heap.size ≤ b ∧ b < wr.heap.size) ∧ Below w.heap.size w wr
theorem UptoD.start {w w1 : World} {k g n : Nat} {L : List Dat} {z : Dat} {zc : Array Value} {base : Nat} {E : TypeId} (hz : ∀ w, Owns w z zc.toList (fun _ => False)) (hk : zc.size = k)
    (h : w1.ownsRow base E zc.size (.slice (some ⟨g, 0, none⟩) n n) n (madeCells zc (n * zc.size)).toList) (hg : w.heap.size ≤ g) (hb : Below w.heap.size w w1) : UptoD w k L g n 0 w1 := by
  have hg2 : g < w1.heap.size := by
    rcases h.2 with ⟨e, -⟩ | ⟨g', cap, cur, e, hb, hh, h1, h2, h3, h4⟩
    · cases e
    · simp only [Value.slice.injEq, Option.some.injEq, Addr.mk.injEq, and_true, true_and] at e
      obtain ⟨rfl, rfl⟩ := e
      exact (Array.getElem?_eq_some_iff.1 hh).1
  refine ⟨_, _, Owns.made hz h, by simp, fun j hj => by omega, fun x hx => ?_, fun b hb => by subst hb; exact ⟨hg, hg2⟩, hb⟩
  rw [(List.mem_replicate.1 hx).2, ← (hz w).lies.len]
  simpa using hk
/-- The cells of the next element: they may be stored into. -/
theorem UptoD.slot {w wr w2 : World} {k g n i : Nat} {L : List Dat} (h : UptoD w k L g n i wr) (hi : i < n) (hb : Below wr.heap.size wr w2) :
    (∀ j, j < k → ∃ u, w2.cell? ⟨g, i * k + j, none⟩ = some u) ∧ ∀ j, w2.frozen? ⟨g, j, none⟩ = false := by
  obtain ⟨ds, B, hO, hn, -, hk, -, -⟩ := h
  obtain ⟨g', E, cur, d, xs, Bi, Br, e, -, -, -, -, h3, -, -, h6, h7, -⟩ := (hO.below hb).focus hk hi
  obtain rfl : g = g' := by injection e with e; injection e
  exact ⟨fun j hj => ⟨xs[j]'(by omega), h6 j _ (List.getElem?_eq_getElem (by omega))⟩, h7⟩
theorem UptoD.next {w wr w2 : World} {k g n i : Nat} {L : List Dat} {d : Dat} {xs : List Value} {B' : Nat → Prop} (h : UptoD w k L g n i wr) (hi : i < n) (hd : L[i]? = some d) (hw : d.width = k) (ho : Owns w2 d xs B') (hB' : ∀ b, B' b → wr.heap.size ≤ b ∧ b < w2.heap.size) (hb : Below wr.heap.size wr w2) :
    UptoD w k L g n (i + 1) (putCells w2 g (i * k) xs) := by
  obtain ⟨ds, B, hO, hn, hL, hk, hB, hbl⟩ := h
  have hg : B g := by
    obtain ⟨g', E, cur, d, xs, Bi, Br, e, hg, -⟩ := hO.focus hk hi
    obtain rfl : g = g' := by injection e with e; injection e
    exact hg
  have hp := hO.put (S := fun _ => False) hk hi (Touch.of_below hb) (fun b hb => hb.elim) hw ho (fun b hb hB1 => by have := hB b hB1; have := hB' b hb; omega)
  have ht := putCells_touch xs w2 g (i * k)
  refine ⟨_, _, hp, by rw [List.length_set]; exact hn, fun j hj => ?_, width_set hk hw, fun b hb2 => ?_, ?_⟩
  · rw [List.getElem?_set]
    by_cases e : i = j
    · subst e; rw [if_pos rfl, if_pos (by omega), hd]
    · rw [if_neg e]; exact hL j (by omega)
  · have := ht.size
    have := hb.size
    rcases hb2 with hb2 | hb2
    · have := hB b hb2; omega
    · have := hB' b hb2; have := hbl.size; omega
  · exact (hbl.trans (hb.mono hbl.size)).trans (ht.below (fun b e => by subst e; exact (hB _ hg).1) (Nat.le_trans hbl.size hb.size))
/-- A new slice comes back, that owns these data. -/
def FreshD (L : List Dat) (w : World) (e : Ending) (w' : World) : Prop := ∃ A n c, e = .returned (.slice A n c) ∧ Owns w' (.l L) [.slice A n c] (fun b => w.heap.size ≤ b ∧ b < w'.heap.size) ∧ Below w.heap.size w w'
theorem UptoD.ret {w wr : World} {k g n : Nat} {L : List Dat} (h : UptoD w k L g n n wr) (hn : L.length = n) : FreshD L w (.returned (.slice (some ⟨g, 0, none⟩) n n)) wr := by
  obtain ⟨ds, B, hO, h1, h2, -, h4, h5⟩ := h
  have e : ds = L := by
    apply List.ext_getElem?
    intro j
    by_cases hj : j < n
    · exact h2 j hj
    · rw [List.getElem?_eq_none (by omega), List.getElem?_eq_none (by omega)]
  subst e
  exact ⟨_, _, _, rfl, hO.mono h4, h5⟩
end Go.Proofs.YthgcodbcafpmhaaDoor
