/- Of no program: data that a call owns: which blocks, each once; what a store or another call leaves of it. -/
import Derived.Test.YthgcodbcafpmhaaDoorDat
import Derived.Test.YthgcodbcafpmhaaDoorFlat
namespace Go.Proofs.YthgcodbcafpmhaaDoor
open Go.RowKit
/-- Only blocks of S have turned; new blocks may lie behind. -/
structure Touch (S : Nat → Prop) (w w' : World) : Prop where
  os : w'.os = w.os
  tape : w'.tape = w.tape
  output : w'.output = w.output
  size : w.heap.size ≤ w'.heap.size
  block : ∀ k, k < w.heap.size → ¬ S k → w'.heap[k]? = w.heap[k]?
section
variable {S S' : Nat → Prop} {w w' w2 : World}
theorem Touch.refl (S : Nat → Prop) (w : World) : Touch S w w := ⟨rfl, rfl, rfl, Nat.le_refl _, fun _ _ _ => rfl⟩
theorem Touch.trans (h : Touch S w w') (k : Touch S w' w2) : Touch S w w2 :=
  ⟨k.os.trans h.os, k.tape.trans h.tape, k.output.trans h.output, Nat.le_trans h.size k.size, fun i hi hS => (k.block i (Nat.lt_of_lt_of_le hi h.size) hS).trans (h.block i hi hS)⟩
theorem Touch.mono (h : Touch S w w') (hs : ∀ b, S b → S' b) : Touch S' w w' := ⟨h.os, h.tape, h.output, h.size, fun k hk hn => h.block k hk (fun hS => hn (hs k hS))⟩
theorem Touch.of_below (h : Below w.heap.size w w') : Touch S w w' := ⟨h.os, h.tape, h.output, h.size, fun k hk _ => h.block k hk⟩
theorem Touch.setCell (h : Touch S w w') {p : Addr} (hp : S p.block) (u : Value) : Touch S w (w'.setCell p u) :=
  h.trans ⟨rfl, rfl, rfl, by simp [World.setCell], fun k _ hg => Below.heap_setCell _ _ _ _ (fun e => hg (by rw [e]; exact hp))⟩
theorem Touch.drew (h : Touch S w w') : Touch S w w'.drew := ⟨h.os, h.tape, h.output, h.size, h.block⟩
theorem Touch.alloc (h : Touch S w w') (o : Obj) : Touch S w (w'.alloc o) :=
  h.trans ⟨rfl, rfl, rfl, by simp, fun k hk _ => Below.heap_alloc _ _ _ hk⟩
theorem Touch.below {B : Nat} (h : Touch S w w') (hS : ∀ b, S b → B ≤ b) (hB : B ≤ w.heap.size) : Below B w w' :=
  ⟨h.os, h.tape, h.output, h.size, fun k hk => h.block k (by omega) (fun hs => by have := hS k hs; omega)⟩
end
mutual
/-- The datum lies in these cells, and each of its slices at the head of a block of B, each block used once. -/
def Owns (w : World) : Dat → List Value → (Nat → Prop) → Prop
  | .i n, cs, _ => cs = [.int .i64 n]
  | .s x, cs, _ => cs = [.string x]
  | .b x, cs, _ => cs = [.bool x]
  | .r ds, cs, B => OwnsAll w ds cs B
  | .l ds, cs, B => ∃ A n c, cs = [.slice A n c] ∧ ds.length = n ∧ (ds = [] ∨ ∃ (g : Nat) (E : TypeId) (cur : Array Value) (B' : Nat → Prop), A = some ⟨g, 0, none⟩ ∧ B g ∧ (∀ b, B' b → B b ∧ b ≠ g) ∧
      w.heap[g]? = some (.cells cur E (0, 0)) ∧ widthAll ds ≤ cur.size ∧ OwnsAll w ds (cur.toList.take (widthAll ds)) B')
def OwnsAll (w : World) : List Dat → List Value → (Nat → Prop) → Prop
  | [], cs, _ => cs = []
  | d :: ds, cs, B => ∃ (c1 c2 : List Value) (B1 B2 : Nat → Prop), cs = c1 ++ c2 ∧ (∀ b, B1 b → B b) ∧ (∀ b, B2 b → B b) ∧ (∀ b, B1 b → ¬ B2 b) ∧ Owns w d c1 B1 ∧ OwnsAll w ds c2 B2
end
section
variable {w w' : World} {B B' : Nat → Prop}
mutual
theorem Owns.mono (hB : ∀ b, B b → B' b) : ∀ {d : Dat} {cs : List Value}, Owns w d cs B → Owns w d cs B'
  | .i _, _, h => by rw [Owns] at h ⊢; exact h
  | .s _, _, h => by rw [Owns] at h ⊢; exact h
  | .b _, _, h => by rw [Owns] at h ⊢; exact h
  | .r ds, cs, h => by rw [Owns] at h ⊢; exact OwnsAll.mono hB h
  | .l ds, _, h => by
    rw [Owns] at h ⊢
    obtain ⟨A, n, c, rfl, hn, h⟩ := h
    refine ⟨A, n, c, rfl, hn, ?_⟩
    rcases h with h | ⟨g, E, cur, B1, e, hg, hs, hh, hw, ho⟩
    · exact Or.inl h
    · exact Or.inr ⟨g, E, cur, B1, e, hB g hg, fun b hb => ⟨hB b (hs b hb).1, (hs b hb).2⟩, hh, hw, ho⟩
theorem OwnsAll.mono (hB : ∀ b, B b → B' b) : ∀ {ds : List Dat} {cs : List Value}, OwnsAll w ds cs B → OwnsAll w ds cs B'
  | [], _, h => by rw [OwnsAll] at h ⊢; exact h
  | d :: ds, _, h => by
    rw [OwnsAll] at h ⊢
    obtain ⟨c1, c2, B1, B2, rfl, h1, h2, h3, h4, h5⟩ := h
    exact ⟨c1, c2, B1, B2, rfl, fun b hb => hB b (h1 b hb), fun b hb => hB b (h2 b hb), h3, h4, h5⟩
end
end
section
variable {w w' : World}
mutual
/-- What other blocks do is nothing to it. -/
theorem Owns.same : ∀ {d : Dat} {cs : List Value} {B : Nat → Prop}, Owns w d cs B → (∀ b, B b → b < w.heap.size → w'.heap[b]? = w.heap[b]?) → Owns w' d cs B
  | .i _, _, _, h, _ => by rw [Owns] at h ⊢; exact h
  | .s _, _, _, h, _ => by rw [Owns] at h ⊢; exact h
  | .b _, _, _, h, _ => by rw [Owns] at h ⊢; exact h
  | .r ds, cs, _, h, hB => by rw [Owns] at h ⊢; exact OwnsAll.same h hB
  | .l ds, _, _, h, hB => by
    rw [Owns] at h ⊢
    obtain ⟨A, n, c, rfl, hn, h⟩ := h
    refine ⟨A, n, c, rfl, hn, ?_⟩
    rcases h with h | ⟨g, E, cur, B1, e, hg, hs, hh, hw, ho⟩
    · exact Or.inl h
    · exact Or.inr ⟨g, E, cur, B1, e, hg, hs, (hB g hg (Array.getElem?_eq_some_iff.1 hh).1).trans hh, hw, OwnsAll.same ho (fun b hb => hB b (hs b hb).1)⟩
theorem OwnsAll.same : ∀ {ds : List Dat} {cs : List Value} {B : Nat → Prop}, OwnsAll w ds cs B → (∀ b, B b → b < w.heap.size → w'.heap[b]? = w.heap[b]?) → OwnsAll w' ds cs B
  | [], _, _, h, _ => by rw [OwnsAll] at h ⊢; exact h
  | d :: ds, _, _, h, hB => by
    rw [OwnsAll] at h ⊢
    obtain ⟨c1, c2, B1, B2, rfl, h1, h2, h3, h4, h5⟩ := h
    exact ⟨c1, c2, B1, B2, rfl, h1, h2, h3, Owns.same h4 (fun b hb => hB b (h1 b hb)), OwnsAll.same h5 (fun b hb => hB b (h2 b hb))⟩
end
mutual
theorem Owns.lies : ∀ {d : Dat} {cs : List Value} {B : Nat → Prop}, Owns w d cs B → Lies w d cs
  | .i _, _, _, h => by rw [Owns] at h; rw [Lies]; exact h
  | .s _, _, _, h => by rw [Owns] at h; rw [Lies]; exact h
  | .b _, _, _, h => by rw [Owns] at h; rw [Lies]; exact h
  | .r ds, cs, _, h => by rw [Owns] at h; rw [Lies]; exact OwnsAll.lies h
  | .l ds, _, _, h => by
    rw [Owns] at h
    rw [Lies]
    obtain ⟨A, n, c, rfl, hn, h⟩ := h
    refine ⟨A, n, c, rfl, hn, ?_⟩
    rcases h with h | ⟨g, E, cur, B1, e, hg, hs, hh, hw, ho⟩
    · exact Or.inl h
    · refine Or.inr ⟨g, 0, _, e, (Array.getElem?_eq_some_iff.1 hh).1, OwnsAll.lies ho, fun j v hj => ?_⟩
      rw [Nat.zero_add, cell_of_row w g j cur E (0, 0) hh]
      rw [List.getElem?_take] at hj
      split at hj
      · simpa using hj
      · cases hj
theorem OwnsAll.lies : ∀ {ds : List Dat} {cs : List Value} {B : Nat → Prop}, OwnsAll w ds cs B → LiesAll w ds cs
  | [], _, _, h => by rw [OwnsAll] at h; rw [LiesAll]; exact h
  | d :: ds, _, _, h => by
    rw [OwnsAll] at h
    rw [LiesAll]
    obtain ⟨c1, c2, B1, B2, rfl, h1, h2, h3, h4, h5⟩ := h
    exact ⟨c1, c2, rfl, Owns.lies h4, OwnsAll.lies h5⟩
end
theorem Owns.touch {S : Nat → Prop} {d : Dat} {cs : List Value} {B : Nat → Prop} (h : Owns w d cs B) (ht : Touch S w w') (hd : ∀ b, B b → ¬ S b) : Owns w' d cs B := h.same fun b hb hlt => ht.block b hlt (hd b hb)
theorem Owns.below {d : Dat} {cs : List Value} {B : Nat → Prop} (h : Owns w d cs B) (hb : Below w.heap.size w w') : Owns w' d cs B := h.same fun b _ hlt => hb.block b hlt
end
/-! ### One element taken out and put back -/
theorem OwnsAll.focus {w : World} {k : Nat} : ∀ {ds : List Dat} {cs : List Value} {B : Nat → Prop} {i : Nat}, OwnsAll w ds cs B → (∀ x ∈ ds, x.width = k) → (hi : i < ds.length) →
    ∃ (d : Dat) (xs : List Value) (Bi Br : Nat → Prop), ds[i]? = some d ∧ Owns w d xs Bi ∧ xs.length = k ∧ (∀ b, Bi b → B b) ∧ (∀ b, Br b → B b) ∧ (∀ b, Bi b → ¬ Br b) ∧ (∀ (j : Nat) (v : Value), xs[j]? = some v → cs[i * k + j]? = some v) ∧
      ∀ (w' : World) (d' : Dat) (xs' : List Value) (Bi' : Nat → Prop), xs'.length = k → Owns w' d' xs' Bi' → (∀ b, Bi' b → ¬ Br b) → (∀ b, Br b → b < w.heap.size → w'.heap[b]? = w.heap[b]?) →
        OwnsAll w' (ds.set i d') (cs.take (i * k) ++ xs' ++ cs.drop (i * k + k)) (fun b => Br b ∨ Bi' b)
  | [], _, _, _, _, _, hi => by simp at hi
  | d :: ds, cs, B, 0, h, hk, _ => by
    rw [OwnsAll] at h
    obtain ⟨c1, c2, B1, B2, rfl, h1, h2, h3, h4, h5⟩ := h
    have e1 : c1.length = k := by rw [h4.lies.len]; exact hk _ (by simp)
    refine ⟨d, c1, B1, B2, rfl, h4, e1, h1, h2, h3, fun j v hj => ?_, fun w' d' xs' Bi' hx ho hdis hsame => ?_⟩
    · rw [Nat.zero_mul, Nat.zero_add, List.getElem?_append_left (List.getElem?_eq_some_iff.1 hj).1]
      exact hj
    · rw [List.set_cons_zero, OwnsAll]
      refine ⟨xs', c2, Bi', B2, ?_, fun b hb => Or.inr hb, fun b hb => Or.inl hb, hdis, ho, h5.same (fun b hb hlt => hsame b hb hlt)⟩
      simp [e1]
  | d :: ds, cs, B, i + 1, h, hk, hi => by
    rw [OwnsAll] at h
    obtain ⟨c1, c2, B1, B2, rfl, h1, h2, h3, h4, h5⟩ := h
    have e1 : c1.length = k := by rw [h4.lies.len]; exact hk _ (by simp)
    obtain ⟨x, xs, Bi, Br, g1, g2, g3, g4, g5, g6, g7, g8⟩ := OwnsAll.focus (i := i) h5 (fun y hy => hk y (List.mem_cons_of_mem _ hy)) (by simpa using hi)
    refine ⟨x, xs, Bi, (fun b => B1 b ∨ Br b), by simpa using g1, g2, g3, fun b hb => h2 b (g4 b hb), fun b hb => ?_, fun b hb hr => ?_, fun j v hj => ?_, fun w' d' xs' Bi' hx ho hdis hsame => ?_⟩
    · rcases hb with hb | hb
      · exact h1 b hb
      · exact h2 b (g5 b hb)
    · rcases hr with hr | hr
      · exact h3 b hr (g4 b hb)
      · exact g6 b hb hr
    · rw [List.getElem?_append_right (by rw [e1, Nat.add_mul]; omega), e1, show (i + 1) * k + j - k = i * k + j by rw [Nat.add_mul]; omega]
      exact g7 j v hj
    · have hr := g8 w' d' xs' Bi' hx ho (fun b hb hr => hdis b hb (Or.inr hr)) (fun b hb hlt => hsame b (Or.inr hb) hlt)
      rw [List.set_cons_succ, OwnsAll]
      refine ⟨c1, _, B1, _, ?_, fun b hb => Or.inl (Or.inl hb), fun b hb => ?_, fun b hb hr => ?_, h4.same (fun b hb hlt => hsame b (Or.inl hb) hlt), hr⟩
      · have e2 : (i + 1) * k = c1.length + i * k := by rw [e1, Nat.add_mul]; omega
        rw [e2, List.take_length_add_append, show c1.length + i * k + k = c1.length + (i * k + k) by omega, List.drop_length_add_append]
        simp
      · rcases hb with hb | hb
        · exact Or.inl (Or.inr hb)
        · exact Or.inr hb
      · rcases hr with hr | hr
        · exact h3 b hb (g5 b hr)
        · exact hdis b hr (Or.inl hb)
theorem widthAll_of {k : Nat} : ∀ {ds : List Dat}, (∀ x ∈ ds, x.width = k) → widthAll ds = ds.length * k
  | [], _ => by simp [widthAll]
  | d :: ds, h => by rw [widthAll, h d (by simp), widthAll_of (fun x hx => h x (List.mem_cons_of_mem _ hx)), List.length_cons, Nat.add_mul]; omega
theorem width_set {k : Nat} {ds : List Dat} {i : Nat} {d : Dat} (h : ∀ x ∈ ds, x.width = k) (hd : d.width = k) : ∀ x ∈ ds.set i d, x.width = k := fun x hx => by
  rcases List.mem_or_eq_of_mem_set hx with hx | rfl
  · exact h x hx
  · exact hd
/-- One element of an owned slice: where it lies, what it owns, and how another one is put in its place. -/
theorem Owns.focus {w : World} {k : Nat} {ds : List Dat} {A : Option Addr} {n c i : Nat} {B : Nat → Prop} (h : Owns w (.l ds) [.slice A n c] B) (hk : ∀ x ∈ ds, x.width = k) (hi : i < n) :
    ∃ (g : Nat) (E : TypeId) (cur : Array Value) (d : Dat) (xs : List Value) (Bi Br : Nat → Prop), A = some ⟨g, 0, none⟩ ∧ B g ∧ w.heap[g]? = some (.cells cur E (0, 0)) ∧ ds[i]? = some d ∧ Owns w d xs Bi ∧ xs.length = k ∧
      (∀ b, Bi b → B b ∧ b ≠ g ∧ ¬ Br b) ∧ (∀ b, Br b → B b ∧ b ≠ g) ∧ (∀ (j : Nat) (v : Value), xs[j]? = some v → w.cell? ⟨g, i * k + j, none⟩ = some v) ∧ (∀ j, w.frozen? ⟨g, j, none⟩ = false) ∧ i * k + k ≤ cur.size ∧
      ∀ (w' : World) (d' : Dat) (xs' : List Value) (Bi' : Nat → Prop) (cur' : Array Value), d'.width = k → Owns w' d' xs' Bi' → (∀ b, Bi' b → b ≠ g ∧ ¬ Br b) → w'.heap[g]? = some (.cells cur' E (0, 0)) → cur'.toList = setRange cur.toList (i * k) xs' →
        (∀ b, Br b → b < w.heap.size → w'.heap[b]? = w.heap[b]?) → Owns w' (.l (ds.set i d')) [.slice A n c] (fun b => b = g ∨ Br b ∨ Bi' b) := by
  rw [Owns] at h
  obtain ⟨A', n', c', e, hn, h⟩ := h
  simp only [List.cons.injEq, Value.slice.injEq, and_true] at e
  obtain ⟨rfl, rfl, rfl⟩ := e
  rcases h with rfl | ⟨g, E, cur, B1, rfl, hg, hs, hh, hw, ho⟩
  · simp at hn; omega
  · have hW := widthAll_of hk
    have hik : i * k + k ≤ ds.length * k := by
      have : (i + 1) * k ≤ ds.length * k := Nat.mul_le_mul_right _ (by omega)
      rw [Nat.add_mul] at this
      omega
    obtain ⟨d, xs, Bi, Br, h1, h2, h3, h4, h5, h6, h7, h8⟩ := ho.focus hk (i := i) (by omega)
    refine ⟨g, E, cur, d, xs, Bi, Br, rfl, hg, hh, h1, h2, h3, fun b hb => ⟨(hs b (h4 b hb)).1, (hs b (h4 b hb)).2, h6 b hb⟩, fun b hb => hs b (h5 b hb), fun j v hj => ?_, fun j => ?_, by omega, ?_⟩
    · rw [cell_of_row w g (i * k + j) cur E (0, 0) hh]
      have := h7 j v hj
      rw [List.getElem?_take] at this
      split at this
      · simpa using this
      · cases this
    · simp [World.frozen?, hh]
    · intro w' d' xs' Bi' cur' hd' ho' hdis hh' hcur hsame
      have hx' : xs'.length = k := by rw [ho'.lies.len]; exact hd'
      have hr := h8 w' d' xs' Bi' hx' ho' (fun b hb => (hdis b hb).2) hsame
      have hW' : widthAll (ds.set i d') = widthAll ds := by rw [widthAll_of (width_set hk hd'), List.length_set, hW]
      have hsz : cur'.size = cur.size := by
        have := congrArg List.length hcur
        rw [setRange_len] at this
        simpa using this
      rw [Owns]
      refine ⟨_, _, _, rfl, by rw [List.length_set]; exact hn, Or.inr ⟨g, E, cur', (fun b => Br b ∨ Bi' b), rfl, Or.inl rfl, fun b hb => ?_, hh', by rw [hW', hsz]; exact hw, ?_⟩⟩
      · rcases hb with hb | hb
        · exact ⟨Or.inr (Or.inl hb), (hs b (h5 b hb)).2⟩
        · exact ⟨Or.inr (Or.inr hb), (hdis b hb).1⟩
      · rw [hW', hcur]
        have e : (setRange cur.toList (i * k) xs').take (widthAll ds) = (cur.toList.take (widthAll ds)).take (i * k) ++ xs' ++ (cur.toList.take (widthAll ds)).drop (i * k + k) := by
          have hlen : i * k + xs'.length ≤ cur.toList.length := by rw [hx']; simp; omega
          apply List.ext_getElem?
          intro j
          rw [List.getElem?_take, setRange_at _ _ _ _ hlen, hx']
          by_cases hj1 : j < i * k
          · rw [if_pos (by omega), if_neg (by omega), List.append_assoc, List.getElem?_append_left (by simp; omega), List.getElem?_take, if_pos hj1, List.getElem?_take, if_pos (by omega)]
          · have hl1 : ((cur.toList.take (widthAll ds)).take (i * k)).length = i * k := by simp; omega
            by_cases hj2 : j < i * k + k
            · rw [if_pos (by omega), if_pos (by omega), List.append_assoc, List.getElem?_append_right (by omega), hl1, List.getElem?_append_left (by omega)]
            · rw [List.getElem?_append_right (by rw [List.length_append, hl1, hx']; omega), List.length_append, hl1, hx', List.getElem?_drop, List.getElem?_take, show i * k + k + (j - (i * k + k)) = j by omega]
              split
              · rw [if_neg (by omega)]
              · rfl
        rw [e]
        exact hr
theorem putCells_heap : ∀ (vs : List Value) (w : World) (g o : Nat) (cur : Array Value) (E : TypeId), w.heap[g]? = some (.cells cur E (0, 0)) → ∃ cur', (putCells w g o vs).heap[g]? = some (.cells cur' E (0, 0)) ∧ cur'.toList = setRange cur.toList o vs
  | [], w, g, o, cur, E, h => ⟨cur, h, rfl⟩
  | v :: vs, w, g, o, cur, E, h => by
    obtain ⟨cur', h1, h2⟩ := putCells_heap vs (w.setCell ⟨g, o, none⟩ v) g (o + 1) (cur.setIfInBounds o v) E (by
      have hlt := (Array.getElem?_eq_some_iff.1 h).1
      have h' : w.heap[g] = .cells cur E (0, 0) := by simpa [Array.getElem?_eq_getElem hlt] using h
      show (w.heap.modify g _)[g]? = _
      rw [Array.getElem?_eq_getElem (by simpa using hlt), Array.getElem_modify_self, h']
      rfl)
    exact ⟨cur', h1, by rw [h2, Array.toList_setIfInBounds, setRange]⟩
theorem putCells_touch : ∀ (vs : List Value) (w : World) (g o : Nat), Touch (fun b => b = g) w (putCells w g o vs)
  | [], w, _, _ => Touch.refl _ w
  | v :: vs, w, g, o => ((Touch.refl (fun b => b = g) w).setCell (p := ⟨g, o, none⟩) rfl v).trans (putCells_touch vs _ g (o + 1))
/-- An element is stored whole. -/
theorem Owns.put {w w1 : World} {k : Nat} {ds : List Dat} {g n c i : Nat} {B S Bi' : Nat → Prop} {d' : Dat} {xs' : List Value} (h : Owns w (.l ds) [.slice (some ⟨g, 0, none⟩) n c] B) (hk : ∀ x ∈ ds, x.width = k) (hi : i < n)
    (ht : Touch S w w1) (hS : ∀ b, S b → ¬ B b) (hd : d'.width = k) (ho : Owns w1 d' xs' Bi') (hdis : ∀ b, Bi' b → ¬ B b) : Owns (putCells w1 g (i * k) xs') (.l (ds.set i d')) [.slice (some ⟨g, 0, none⟩) n c] (fun b => B b ∨ Bi' b) := by
  obtain ⟨g', E, cur, d, xs, Bi, Br, e, hg, hh, h1, h2, h3, h4, h5, h6, h7, h8, hput⟩ := h.focus hk hi
  obtain rfl : g = g' := by injection e with e; injection e
  have hlt := (Array.getElem?_eq_some_iff.1 hh).1
  have hh1 : w1.heap[g]? = some (.cells cur E (0, 0)) := (ht.block g hlt (fun hs => hS g hs hg)).trans hh
  obtain ⟨cur', hc1, hc2⟩ := putCells_heap xs' w1 g (i * k) cur E hh1
  have htp := putCells_touch xs' w1 g (i * k)
  refine (hput (putCells w1 g (i * k) xs') d' xs' Bi' cur' hd (ho.touch htp (fun b hb e => hdis b hb (by rw [e]; exact hg))) (fun b hb => ⟨fun e => hdis b hb (by rw [e]; exact hg), fun hr => hdis b hb (h5 b hr).1⟩) hc1 hc2 (fun b hb hlt => ?_)).mono (fun b hb => ?_)
  · rw [htp.block b (Nat.lt_of_lt_of_le hlt ht.size) (fun e => (h5 b hb).2 e)]
    exact ht.block b hlt (fun hs => hS b hs (h5 b hb).1)
  · rcases hb with rfl | hb | hb
    · exact Or.inl hg
    · exact Or.inl (h5 b hb).1
    · exact Or.inr hb
end Go.Proofs.YthgcodbcafpmhaaDoor
