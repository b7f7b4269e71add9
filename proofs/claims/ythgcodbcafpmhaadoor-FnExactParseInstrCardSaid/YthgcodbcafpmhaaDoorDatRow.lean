/- Of no program: rows that grow, nested: an element is owned with its own rows, which may grow further; 'append' of a new element; the last element taken out, changed and put back. -/
import Derived.Test.YthgcodbcafpmhaaDoorDatApp
namespace Go.Proofs.YthgcodbcafpmhaaDoor
open Go.RowKit
/-- How elements are owned: their datum, and what their cells own. -/
structure Elt (α : Type) where
  dat : α → Dat
  own : World → α → List Value → (Nat → Prop) → Prop
  k : Nat
  pos : 0 < k
  toOwns : ∀ {w : World} {x : α} {cs : List Value} {B : Nat → Prop}, own w x cs B → Owns w (dat x) cs B
  width : ∀ x, (dat x).width = k
  same : ∀ {w w' : World} {x : α} {cs : List Value} {B : Nat → Prop}, own w x cs B → (∀ b, B b → b < w.heap.size → w'.heap[b]? = w.heap[b]?) → own w' x cs B
  mono : ∀ {w : World} {x : α} {cs : List Value} {B B' : Nat → Prop}, own w x cs B → (∀ b, B b → B' b) → own w x cs B'
section
variable {α : Type} (P : Elt α)
def RowsP (w : World) : List α → List Value → (Nat → Prop) → Prop
  | [], cs, _ => cs = []
  | x :: L, cs, B => ∃ (c1 c2 : List Value) (B1 B2 : Nat → Prop), cs = c1 ++ c2 ∧ (∀ b, B1 b → B b) ∧ (∀ b, B2 b → B b) ∧ (∀ b, B1 b → ¬ B2 b) ∧ P.own w x c1 B1 ∧ RowsP w L c2 B2
/-- A slice that grows: its row is the call's own, its elements are owned in other blocks. -/
def GrowP (E : TypeId) (lo : Nat) (w : World) (A : Option Addr) (n c : Nat) (L : List α) (B : Nat → Prop) : Prop :=
  ∃ (xs : List Value) (B' : Nat → Prop), w.ownsRow lo E P.k (.slice A n c) n xs ∧ RowsP P w L xs B' ∧ L.length = n ∧ (∀ b, B' b → B b ∧ b < w.heap.size) ∧ ∀ a, A = some a → B a.block ∧ ¬ B' a.block
end
section
variable {α : Type} {P : Elt α} {w w' : World}
theorem Elt.len {x : α} {cs : List Value} {B : Nat → Prop} (h : P.own w x cs B) : cs.length = P.k := by rw [(P.toOwns h).lies.len, P.width]
theorem RowsP.same : ∀ {L : List α} {cs : List Value} {B : Nat → Prop}, RowsP P w L cs B → (∀ b, B b → b < w.heap.size → w'.heap[b]? = w.heap[b]?) → RowsP P w' L cs B
  | [], _, _, h, _ => h
  | x :: L, cs, B, h, hB => by
    obtain ⟨c1, c2, B1, B2, rfl, h1, h2, h3, h4, h5⟩ := h
    exact ⟨c1, c2, B1, B2, rfl, h1, h2, h3, P.same h4 (fun b hb => hB b (h1 b hb)), RowsP.same h5 (fun b hb => hB b (h2 b hb))⟩
theorem RowsP.owns : ∀ {L : List α} {cs : List Value} {B : Nat → Prop}, RowsP P w L cs B → OwnsAll w (L.map P.dat) cs B
  | [], _, _, h => by rw [List.map_nil, OwnsAll]; exact h
  | x :: L, cs, B, h => by
    obtain ⟨c1, c2, B1, B2, rfl, h1, h2, h3, h4, h5⟩ := h
    rw [List.map_cons, OwnsAll]
    exact ⟨c1, c2, B1, B2, rfl, h1, h2, h3, P.toOwns h4, RowsP.owns h5⟩
theorem RowsP.len : ∀ {L : List α} {cs : List Value} {B : Nat → Prop}, RowsP P w L cs B → cs.length = L.length * P.k
  | [], _, _, h => by rw [show _ = [] from h]; simp
  | x :: L, cs, B, h => by
    obtain ⟨c1, c2, B1, B2, rfl, h1, h2, h3, h4, h5⟩ := h
    rw [List.length_append, Elt.len h4, RowsP.len h5, List.length_cons, Nat.add_mul]
    omega
theorem RowsP.snoc : ∀ {L : List α} {xs cs : List Value} {B Bx : Nat → Prop} {x : α}, RowsP P w L xs B → P.own w x cs Bx → (∀ b, B b → ¬ Bx b) → RowsP P w (L ++ [x]) (xs ++ cs) (fun b => B b ∨ Bx b)
  | [], xs, cs, B, Bx, x, h, hx, _ => by
    rw [show xs = [] from h]
    exact ⟨cs, [], Bx, (fun _ => False), (List.append_nil cs).symm, fun b hb => Or.inr hb, fun b hb => hb.elim, fun b _ hb => hb, hx, rfl⟩
  | y :: L, xs, cs, B, Bx, x, h, hx, hd => by
    obtain ⟨c1, c2, B1, B2, rfl, h1, h2, h3, h4, h5⟩ := h
    refine ⟨c1, c2 ++ cs, B1, (fun b => B2 b ∨ Bx b), List.append_assoc _ _ _, fun b hb => Or.inl (h1 b hb), fun b hb => ?_, fun b hb hr => ?_, h4, RowsP.snoc h5 hx (fun b hb => hd b (h2 b hb))⟩
    · rcases hb with hb | hb
      · exact Or.inl (h2 b hb)
      · exact Or.inr hb
    · rcases hr with hr | hr
      · exact h3 b hb hr
      · exact hd b (h1 b hb) hr
theorem RowsP.last : ∀ {L : List α} {xs : List Value} {B : Nat → Prop} {x : α}, RowsP P w (L ++ [x]) xs B →
    ∃ (ys cs : List Value) (Br Bx : Nat → Prop), xs = ys ++ cs ∧ (∀ b, Br b → B b) ∧ (∀ b, Bx b → B b) ∧ (∀ b, Br b → ¬ Bx b) ∧ RowsP P w L ys Br ∧ P.own w x cs Bx
  | [], xs, B, x, h => by
    obtain ⟨c1, c2, B1, B2, rfl, h1, h2, h3, h4, h5⟩ := h
    rw [show c2 = [] from h5]
    exact ⟨[], c1, (fun _ => False), B1, (List.append_nil c1), fun b hb => hb.elim, h1, fun b hb => hb.elim, rfl, h4⟩
  | y :: L, xs, B, x, h => by
    obtain ⟨c1, c2, B1, B2, rfl, h1, h2, h3, h4, h5⟩ := h
    obtain ⟨ys, cs, Br, Bx, rfl, g1, g2, g3, g4, g5⟩ := RowsP.last h5
    refine ⟨c1 ++ ys, cs, (fun b => B1 b ∨ Br b), Bx, (List.append_assoc _ _ _).symm, fun b hb => ?_, fun b hb => h2 b (g2 b hb), fun b hb hx => ?_, ⟨c1, ys, B1, Br, rfl, fun b hb => Or.inl hb, fun b hb => Or.inr hb, fun b hb hr => h3 b hb (g1 b hr), h4, g4⟩, g5⟩
    · rcases hb with hb | hb
      · exact h1 b hb
      · exact h2 b (g1 b hb)
    · rcases hb with hb | hb
      · exact h3 b hb (g2 b hx)
      · exact g3 b hb hx
end
section
variable {α : Type} {P : Elt α} {w w' : World} {E : TypeId} {lo : Nat} {A : Option Addr} {n c : Nat} {L : List α} {B B' : Nat → Prop}
theorem GrowP.nil (P : Elt α) (E : TypeId) (lo : Nat) (w : World) (B : Nat → Prop) : GrowP P E lo w none 0 0 [] B :=
  ⟨[], (fun _ => False), World.ownsRow_nil w lo E P.k, rfl, rfl, fun b hb => hb.elim, fun a e => by cases e⟩
theorem GrowP.lit0 (P : Elt α) (E : TypeId) (lo : Nat) (w : World) (hlo : lo ≤ w.heap.size) (B : Nat → Prop) (hB : B w.heap.size) : GrowP P E lo (w.alloc (.cells #[] E)) (some ⟨w.heap.size, 0, none⟩) 0 0 [] B := by
  refine ⟨[], (fun _ => False), ⟨by simp, Or.inr ⟨w.heap.size, 0, #[], rfl, hlo, ?_, Nat.le_refl _, Nat.zero_le _, by simp, by simp⟩⟩, rfl, rfl, fun b hb => hb.elim, fun a e => ?_⟩
  · show (w.heap.push _)[w.heap.size]? = _
    simp
  · obtain rfl := Option.some.inj e
    exact ⟨hB, fun h => h⟩
theorem GrowP.drew (h : GrowP P E lo w A n c L B) : GrowP P E lo w.drew A n c L B := by
  obtain ⟨xs, B1, h1, h2, h3, h4, h5⟩ := h
  exact ⟨xs, B1, ⟨h1.1, h1.2⟩, h2.same (fun _ _ _ => rfl), h3, h4, h5⟩
theorem GrowP.count (h : GrowP P E lo w A n c L B) : L.length = n := by obtain ⟨xs, B1, h1, h2, h3, h4, h5⟩ := h; exact h3
theorem GrowP.mono (h : GrowP P E lo w A n c L B) (hB : ∀ b, B b → B' b) : GrowP P E lo w A n c L B' := by
  obtain ⟨xs, B1, h1, h2, h3, h4, h5⟩ := h
  exact ⟨xs, B1, h1, h2, h3, fun b hb => ⟨hB b (h4 b hb).1, (h4 b hb).2⟩, fun a e => ⟨hB _ (h5 a e).1, (h5 a e).2⟩⟩
theorem ownsRow_same {k : Nat} {v : Value} {xs : List Value} (h : w.ownsRow lo E k v n xs) (hB : ∀ g, v.ownBlock = some g → g < w.heap.size → w'.heap[g]? = w.heap[g]?) : w'.ownsRow lo E k v n xs := by
  refine ⟨h.1, ?_⟩
  rcases h.2 with hn | ⟨g, cap, cur, hv, hb, hgg, rest⟩
  · exact .inl hn
  · exact .inr ⟨g, cap, cur, hv, hb, (hB g (by rw [hv]; rfl) (Array.getElem?_eq_some_iff.1 hgg).1).trans hgg, rest⟩
theorem GrowP.same (h : GrowP P E lo w A n c L B) (hB : ∀ b, B b → b < w.heap.size → w'.heap[b]? = w.heap[b]?) : GrowP P E lo w' A n c L B := by
  obtain ⟨xs, B1, h1, h2, h3, h4, h5⟩ := h
  refine ⟨xs, B1, ownsRow_same h1 (fun g hg hlt => hB g ?_ hlt), h2.same (fun b hb hlt => hB b (h4 b hb).1 hlt), h3, fun b hb => ⟨(h4 b hb).1, ?_⟩, h5⟩
  · cases A with
    | none => simp [Value.ownBlock] at hg
    | some a =>
      simp [Value.ownBlock] at hg
      subst hg
      exact (h5 a rfl).1
  · obtain ⟨h6, h7⟩ := h4 b hb
    have e := hB b h6 h7
    rw [Array.getElem?_eq_getElem h7] at e
    exact (Array.getElem?_eq_some_iff.1 e).1
theorem GrowP.touch {S : Nat → Prop} (h : GrowP P E lo w A n c L B) (ht : Touch S w w') (hS : ∀ b, B b → ¬ S b) : GrowP P E lo w' A n c L B := h.same fun b hb hlt => ht.block b hlt (hS b hb)
theorem GrowP.below (h : GrowP P E lo w A n c L B) (hb : Below w.heap.size w w') : GrowP P E lo w' A n c L B := h.same fun b _ hlt => hb.block b hlt
/-- It is owned data. -/
theorem GrowP.owns (h : GrowP P E lo w A n c L B) : Owns w (.l (L.map P.dat)) [.slice A n c] B := by
  obtain ⟨xs, B1, h1, h2, h3, h4, h5⟩ := h
  have h2' := h2.owns
  rw [Owns]
  refine ⟨A, n, c, rfl, by rw [List.length_map]; exact h3, ?_⟩
  rcases h1.2 with ⟨-, hn⟩ | ⟨g, cap, cur, hv, hb, hgg, hnc, hcm, hcs, htk⟩
  · exact Or.inl (by rw [List.eq_nil_of_length_eq_zero (by omega : L.length = 0)]; rfl)
  · have hAe : A = some ⟨g, 0, none⟩ := by injection hv
    have hW : widthAll (L.map P.dat) = n * P.k := by
      rw [widthAll_of (k := P.k) (fun x hx => by obtain ⟨y, -, rfl⟩ := List.mem_map.1 hx; exact P.width y), List.length_map, h3]
    refine Or.inr ⟨g, E, cur, B1, hAe, (h5 _ hAe).1, fun b hb => ⟨(h4 b hb).1, fun e => (h5 _ hAe).2 (by show B1 g; rw [← e]; exact hb)⟩, hgg, ?_, ?_⟩
    · rw [hW, hcs]; exact Nat.mul_le_mul_right _ hnc
    · rw [hW, htk]; exact h2'
theorem GrowP.cap (h : GrowP P E lo w A n c L B) : n ≤ c := by
  obtain ⟨xs, B1, h1, h2, h3, h4, h5⟩ := h
  rcases h1.2 with ⟨hv, hn⟩ | ⟨g, cap, cur, hv, hb, hgg, hnc, hcm, hcs, htk⟩
  · injection hv with _ _ h6; omega
  · injection hv with _ _ h6; omega
/-- The last element: where it lies, what it owns. -/
theorem GrowP.last {x : α} (h : GrowP P E lo w A n c (L ++ [x]) B) :
    ∃ (g : Nat) (cs : List Value) (Bx : Nat → Prop), A = some ⟨g, 0, none⟩ ∧ n = L.length + 1 ∧ B g ∧ lo ≤ g ∧ g < w.heap.size ∧ P.own w x cs Bx ∧ cs.length = P.k ∧
      (∀ (j : Nat) (v : Value), cs[j]? = some v → w.cell? ⟨g, L.length * P.k + j, none⟩ = some v) ∧ (∀ j, w.frozen? ⟨g, j, none⟩ = false) ∧
      (∀ b, Bx b → B b ∧ b ≠ g ∧ b < w.heap.size) ∧
      (∀ (w' : World) (x' : α) (Bx' : Nat → Prop), Touch Bx w w' → P.own w' x' cs Bx' → (∀ b, Bx' b → Bx b ∨ (w.heap.size ≤ b ∧ b < w'.heap.size)) →
        GrowP P E lo w' A n c (L ++ [x']) (fun b => B b ∨ (w.heap.size ≤ b ∧ b < w'.heap.size))) ∧
      (∀ (w' : World) (x' : α) (j : Nat) (u : Value) (Bx' : Nat → Prop), Touch Bx w w' → j < P.k → P.own w' x' (cs.set j u) Bx' → (∀ b, Bx' b → Bx b ∨ (w.heap.size ≤ b ∧ b < w'.heap.size)) →
        GrowP P E lo (w'.setCell ⟨g, L.length * P.k + j, none⟩ u) A n c (L ++ [x']) (fun b => B b ∨ (w.heap.size ≤ b ∧ b < w'.heap.size))) := by
  obtain ⟨xs, B1, h1, h2, h3, h4, h5⟩ := h
  obtain ⟨ys, cs, Br, Bx, rfl, g1, g2, g3, g4, g5⟩ := h2.last
  have hyl := g4.len
  have hcl : cs.length = P.k := Elt.len g5
  rw [List.length_append, List.length_singleton] at h3
  rcases h1.2 with ⟨-, hn⟩ | ⟨g, cap, cur, hv, hb, hgg, hnc, hcm, hcs, htk⟩
  · omega
  · injection hv with hA _ hc
    subst hA
    subst hc
    have hgl := (Array.getElem?_eq_some_iff.1 hgg).1
    have hgB := h5 _ rfl
    have hcell : ∀ (j : Nat) (v : Value), cs[j]? = some v → w.cell? ⟨g, L.length * P.k + j, none⟩ = some v := by
      intro j v hj
      have hjl := (List.getElem?_eq_some_iff.1 hj).1
      rw [h1.cellAt (L.length * P.k + j) (by rw [← h3, Nat.add_mul]; omega), List.getElem?_append_right (by omega), hyl, Nat.add_sub_cancel_left]
      exact hj
    have hsnoc : ∀ (w' : World) (x' : α) (cs' : List Value) (Bx' : Nat → Prop), Touch Bx w w' → P.own w' x' cs' Bx' → (∀ b, Bx' b → Bx b ∨ (w.heap.size ≤ b ∧ b < w'.heap.size)) → RowsP P w' (L ++ [x']) (ys ++ cs') (fun b => Br b ∨ Bx' b) := by
      intro w' x' cs' Bx' ht ho hB'
      refine RowsP.snoc (g4.same (fun b hb hlt => ht.block b hlt (g3 b hb))) ho (fun b hb hx => ?_)
      rcases hB' b hx with hx | hx
      · exact g3 b hb hx
      · have := (h4 b (g1 b hb)).2; omega
    refine ⟨g, cs, Bx, rfl, h3.symm, hgB.1, hb, hgl, g5, hcl, hcell, fun j => h1.frozenAt j, fun b hb => ⟨(h4 b (g2 b hb)).1, fun e => hgB.2 (by show B1 g; rw [← e]; exact g2 b hb), (h4 b (g2 b hb)).2⟩, ?_, ?_⟩
    · intro w' x' Bx' ht ho hB'
      have hr := hsnoc w' x' cs Bx' ht ho hB'
      have hng : ¬ Bx g := fun e => hgB.2 (g2 g e)
      refine ⟨_, _, ownsRow_same h1 (fun g' hg' hlt => ?_), hr, by rw [List.length_append, List.length_singleton]; exact h3, fun b hb => ?_, fun a e => ?_⟩
      · obtain rfl : g = g' := by simpa [Value.ownBlock] using hg'
        exact ht.block g hlt hng
      · rcases hb with hb | hb
        · exact ⟨Or.inl (h4 b (g1 b hb)).1, Nat.lt_of_lt_of_le (h4 b (g1 b hb)).2 ht.size⟩
        · rcases hB' b hb with hx | hx
          · exact ⟨Or.inl (h4 b (g2 b hx)).1, Nat.lt_of_lt_of_le (h4 b (g2 b hx)).2 ht.size⟩
          · exact ⟨Or.inr hx, hx.2⟩
      · obtain rfl := Option.some.inj e
        refine ⟨Or.inl hgB.1, fun hb => ?_⟩
        rcases hb with hb | hb
        · exact hgB.2 (g1 _ hb)
        · rcases hB' _ hb with hx | hx
          · exact hng hx
          · have : w.heap.size ≤ g := hx.1
            omega
    · intro w' x' j u Bx' ht hj ho hB'
      have hng : ¬ Bx g := fun e => hgB.2 (g2 g e)
      have hng' : ¬ Bx' g := fun e => by
        rcases hB' _ e with hx | hx
        · exact hng hx
        · have : w.heap.size ≤ g := hx.1
          omega
      have h1' := ownsRow_same (w' := w') h1 (fun g' hg' hlt => by
        obtain rfl : g = g' := by simpa [Value.ownBlock] using hg'
        exact ht.block g hlt hng)
      have hst := (h1'.stored (L.length * P.k + j) u).1
      have e : (ys ++ cs).set (L.length * P.k + j) u = ys ++ cs.set j u := by
        rw [List.set_append_right _ _ (by omega), hyl, Nat.add_sub_cancel_left]
      rw [e] at hst
      have hr := hsnoc w' x' (cs.set j u) Bx' ht ho hB'
      have hsz : (w'.setCell ⟨g, L.length * P.k + j, none⟩ u).heap.size = w'.heap.size := by simp [World.setCell]
      refine ⟨_, _, hst, hr.same (fun b hb _ => Below.heap_setCell _ _ _ _ (fun e => ?_)), by rw [List.length_append, List.length_singleton]; exact h3, fun b hb => ?_, fun a e => ?_⟩
      · have e' : b = g := e
        have hb' : Br g ∨ Bx' g := e' ▸ hb
        exact hb'.elim (fun hb => hgB.2 (g1 g hb)) hng'
      · rw [hsz]
        rcases hb with hb | hb
        · exact ⟨Or.inl (h4 b (g1 b hb)).1, Nat.lt_of_lt_of_le (h4 b (g1 b hb)).2 ht.size⟩
        · rcases hB' b hb with hx | hx
          · exact ⟨Or.inl (h4 b (g2 b hx)).1, Nat.lt_of_lt_of_le (h4 b (g2 b hx)).2 ht.size⟩
          · exact ⟨Or.inr hx, hx.2⟩
      · obtain rfl := Option.some.inj e
        refine ⟨Or.inl hgB.1, fun hb => ?_⟩
        have hb' : Br g ∨ Bx' g := hb
        exact hb'.elim (fun hb => hgB.2 (g1 g hb)) hng'
end
/-! ### append -/
section
variable {P : Program} (w : World)
theorem run_append_row (k : Nat) (hk : 0 < k) (t ty E : TypeId) (i : TypeInfo) (z : Value) (bytes : Nat) (ht : P.underlying t = some (.slice E)) (hi : P.info? E = some i) (hz : i.zero = some z)
    (hsize : i.size = k) (hzs : z.cells.size = k) (hby : i.bytes = bytes) (lo : Nat) (A0 : Option Addr) (n c0 : Nat) (xs : List Value) (g1 : w.ownsRow lo E k (.slice A0 n c0) n xs)
    (A : Option Addr) (m c : Nat) (ys : List Value) (s1 : Rd w w.heap.size A ys) (hyl : ys.length = m * k) (hone : ∀ u ∈ ys, u.oneCell' = true) (h63 : n + m ≤ maxLen) (hbytes : (n + m) * bytes ≤ 140737488355328) (hlo : lo ≤ w.heap.size) :
    ∃ A' c' w', (Builtin.append_ #[t, t] ty #[.slice A0 n c0, .slice A m c]).run P w = .ok (.slice A' (n + m) c') w' ∧ w'.ownsRow lo E k (.slice A' (n + m) c') (n + m) (xs ++ ys) ∧ Touch (fun b => ∃ a, A0 = some a ∧ b = a.block) w w' ∧
      (∀ a, A' = some a → A0 = some a ∨ w.heap.size ≤ a.block) ∧ (∀ a, A' = some a → a.block < w'.heap.size) := by
  have hfin : ∀ v' w', w'.ownsRow lo E k v' (n + m) (xs ++ ys) → w.grownBy w' (Value.slice A0 n c0).ownBlock → (∀ g, v'.ownBlock = some g → (Value.slice A0 n c0).ownBlock = some g ∨ w.heap.size ≤ g) →
      (Builtin.append_ #[t, t] ty #[.slice A0 n c0, .slice A m c]).run P w = .ok v' w' →
      ∃ A' c' w', (Builtin.append_ #[t, t] ty #[.slice A0 n c0, .slice A m c]).run P w = .ok (.slice A' (n + m) c') w' ∧ w'.ownsRow lo E k (.slice A' (n + m) c') (n + m) (xs ++ ys) ∧ Touch (fun b => ∃ a, A0 = some a ∧ b = a.block) w w' ∧
        (∀ a, A' = some a → A0 = some a ∨ w.heap.size ≤ a.block) ∧ (∀ a, A' = some a → a.block < w'.heap.size) := by
    intro v' w' h1 h2 h3 h4
    have ht : Touch (fun b => ∃ a, A0 = some a ∧ b = a.block) w w' := ⟨h2.os, h2.tape, h2.output, h2.size, fun k hk hn => h2.block k hk (fun e => hn (by
      cases A0 with
      | none => simp [Value.ownBlock] at e
      | some a => simp [Value.ownBlock] at e; exact ⟨a, rfl, e⟩))⟩
    have hform : ∃ A' c', v' = .slice A' (n + m) c' := by
      rcases h1.2 with ⟨rfl, e⟩ | ⟨g, cap, cur, rfl, -⟩
      · exact ⟨none, 0, by rw [e]⟩
      · exact ⟨_, _, rfl⟩
    obtain ⟨A', c', rfl⟩ := hform
    refine ⟨A', c', w', h4, h1, ht, fun a e => ?_, fun a e => ?_⟩
    · subst e
      rcases h3 a.block (by simp [Value.ownBlock]) with e | e
      · left
        cases A0 with
        | none => simp [Value.ownBlock] at e
        | some a0 =>
          simp [Value.ownBlock] at e
          rcases g1.2 with ⟨hv, -⟩ | ⟨g, cap, cur, hv, -⟩
          · injection hv with hv; cases hv
          · injection hv with hv
            rcases h1.2 with ⟨hv', -⟩ | ⟨g', cap', cur', hv', -⟩
            · injection hv' with hv'; cases hv'
            · injection hv' with hv'
              injection hv with hv
              injection hv' with hv'
              subst hv hv'
              simp only at e
              rw [e]
      · exact Or.inr e
    · subst e
      rcases h1.2 with ⟨hv, -⟩ | ⟨g, cap, cur, hv, -, hgg, -⟩
      · injection hv with hv; cases hv
      · injection hv with hv
        injection hv with hv
        subst hv
        exact (Array.getElem?_eq_some_iff.1 hgg).1
  have hcase : (m = 0 ∧ ys = [] ∧ A = none) ∨ ∃ ad, A = some ad := by
    cases A with
    | some ad => exact Or.inr ⟨ad, rfl⟩
    | none =>
      left
      rcases s1 with h | ⟨b, off, e, _⟩
      · subst h
        have h0 : m * k = 0 := by simpa using hyl.symm
        rcases Nat.mul_eq_zero.1 h0 with h1 | h1
        · exact ⟨h1, rfl, rfl⟩
        · omega
      · cases e
  rcases hcase with ⟨rfl, rfl, rfl⟩ | ⟨ad, rfl⟩
  · exact hfin _ w (by simpa using g1) (World.grownBy.refl w _) (fun g hg => Or.inl (by simpa [Value.ownBlock] using hg)) (run_append_of_nil w lo t ty E i k ht hi _ n _ g1 c)
  · have hcells : ∀ j u, ys[j]? = some u → w.cell? (ad.add j) = some u := by
      intro j u hu
      rcases s1 with h | ⟨b, off, e, hb, hc⟩
      · rw [h] at hu; simp at hu
      · obtain rfl := Option.some.inj e
        rw [Addr.add_lit]
        exact hc j u hu
    obtain ⟨v', w', hrun, h2, h3, h4, h5⟩ := run_append_own_at (P := P) w lo t ty E i z k bytes ht hi hz hsize hby hzs hk _ n _ g1 ad m c ys hyl hcells hone h63 hbytes hlo
    exact hfin v' w' h2 h3 (fun g hg => by
      rcases h5 with e | e
      · exact Or.inl (by rw [← e]; exact hg)
      · rw [e] at hg
        exact Or.inr (Nat.le_of_eq (Option.some.inj hg))) hrun
variable {α : Type} (Q : Elt α)
/-- A new element, which owns nothing yet. -/
theorem run_append_new (t ty E : TypeId) (i : TypeInfo) (z : Value) (bytes : Nat) (ht : P.underlying t = some (.slice E)) (hi : P.info? E = some i) (hz : i.zero = some z)
    (hsize : i.size = Q.k) (hzs : z.cells.size = Q.k) (hby : i.bytes = bytes) (lo : Nat) (A0 : Option Addr) (n c0 : Nat) (L : List α) (B : Nat → Prop) (hO : GrowP Q E lo w A0 n c0 L B)
    (A : Option Addr) (c : Nat) (x : α) (ys : List Value) (s1 : Rd w w.heap.size A ys) (hx : ∀ w, Q.own w x ys (fun _ => False)) (h63 : n + 1 ≤ maxLen) (hbytes : (n + 1) * bytes ≤ 140737488355328) (hlo : lo ≤ w.heap.size) :
    ∃ A' c' w', (Builtin.append_ #[t, t] ty #[.slice A0 n c0, .slice A 1 c]).run P w = .ok (.slice A' (n + 1) c') w' ∧ GrowP Q E lo w' A' (n + 1) c' (L ++ [x]) (fun b => B b ∨ (w.heap.size ≤ b ∧ b < w'.heap.size)) ∧ Touch B w w' := by
  obtain ⟨xs, B1, h1, h2, h3, h4, h5⟩ := hO
  have hyl : ys.length = 1 * Q.k := by rw [Nat.one_mul]; exact Elt.len (hx w)
  obtain ⟨A', c', w', r1, r2, r3, r4, r5⟩ := run_append_row (P := P) w Q.k Q.pos t ty E i z bytes ht hi hz hsize hzs hby lo A0 n c0 xs h1 A 1 c ys s1 hyl (Q.toOwns (hx w)).one h63 hbytes hlo
  refine ⟨A', c', w', r1, ⟨xs ++ ys, (fun b => B1 b ∨ False), r2, RowsP.snoc (h2.same (fun b hb hlt => r3.block b hlt ?_)) (hx w') (fun b _ h => h), by rw [List.length_append, List.length_singleton, h3], fun b hb => ?_, fun a e => ?_⟩, r3.mono ?_⟩
  · rintro ⟨a, e, rfl⟩
    exact (h5 a e).2 hb
  · rcases hb with hb | hb
    · exact ⟨Or.inl (h4 b hb).1, Nat.lt_of_lt_of_le (h4 b hb).2 r3.size⟩
    · exact hb.elim
  · rcases r4 a e with e' | e'
    · exact ⟨Or.inl (h5 a e').1, fun hb => by
        rcases hb with hb | hb
        · exact (h5 a e').2 hb
        · exact hb⟩
    · exact ⟨Or.inr ⟨e', r5 a e⟩, fun hb => by
        rcases hb with hb | hb
        · have := (h4 _ hb).2; omega
        · exact hb⟩
  · rintro b ⟨a, e, rfl⟩
    exact (h5 a e).1
theorem wp_append_new {o : Oper} {a : Act} {K : Act → World → Prop} {R : Exit → Act → World → Prop} (s x : Operand) (t : TypeId)
    (ho : o.op = .call { callee := .builtin .append, args := #[s, x], argTypes := #[t, t] }) (E : TypeId) (i : TypeInfo) (z : Value) (bytes : Nat) (ht : P.underlying t = some (.slice E)) (hi : P.info? E = some i) (hz : i.zero = some z)
    (hsize : i.size = Q.k) (hzs : z.cells.size = Q.k) (hby : i.bytes = bytes) (lo : Nat) (A0 : Option Addr) (n c0 : Nat) (L : List α) (B : Nat → Prop) (hs : a.eval s = .slice A0 n c0) (hO : GrowP Q E lo w A0 n c0 L B)
    (A : Option Addr) (c : Nat) (y : α) (ys : List Value) (hv : a.eval x = .slice A 1 c) (s1 : Rd w w.heap.size A ys) (hx : ∀ w, Q.own w y ys (fun _ => False)) (h63 : n + 1 ≤ maxLen) (hbytes : (n + 1) * bytes ≤ 140737488355328) (hlo : lo ≤ w.heap.size)
    (h : ∀ A' c' w', GrowP Q E lo w' A' (n + 1) c' (L ++ [y]) (fun b => B b ∨ (w.heap.size ≤ b ∧ b < w'.heap.size)) → Touch B w w' → K (a.put o.dst (.slice A' (n + 1) c')) w') : o.wp P a w K R := by
  obtain ⟨A', c', w', hrun, h2, h3⟩ := run_append_new (P := P) w Q t o.type E i z bytes ht hi hz hsize hzs hby lo A0 n c0 L B hO A c y ys s1 hx h63 hbytes hlo
  unfold Oper.wp execOp
  simp only [ho, resolve, invoke, builtin, Sem.run_bind, Sem.run_pure, Result.andThen_ok, List.map_toArray, List.map_cons, List.map_nil, hs, hv, hrun]
  exact h A' c' w' h2 h3
theorem wpList_append_new {ops : Array Oper} {rest : List Oper} {o : Oper} {a : Act} {R : Exit → Act → World → Prop} (hgd : o.guard = none) (s x : Operand) (t : TypeId)
    (ho : o.op = .call { callee := .builtin .append, args := #[s, x], argTypes := #[t, t] }) (E : TypeId) (i : TypeInfo) (z : Value) (bytes : Nat) (ht : P.underlying t = some (.slice E)) (hi : P.info? E = some i) (hz : i.zero = some z)
    (hsize : i.size = Q.k) (hzs : z.cells.size = Q.k) (hby : i.bytes = bytes) (lo : Nat) (A0 : Option Addr) (n c0 : Nat) (L : List α) (B : Nat → Prop) (hs : a.eval s = .slice A0 n c0) (hO : GrowP Q E lo w A0 n c0 L B)
    (A : Option Addr) (c : Nat) (y : α) (ys : List Value) (hv : a.eval x = .slice A 1 c) (s1 : Rd w w.heap.size A ys) (hx : ∀ w, Q.own w y ys (fun _ => False)) (h63 : n + 1 ≤ maxLen) (hbytes : (n + 1) * bytes ≤ 140737488355328) (hlo : lo ≤ w.heap.size)
    (h : ∀ A' c' w', GrowP Q E lo w' A' (n + 1) c' (L ++ [y]) (fun b => B b ∨ (w.heap.size ≤ b ∧ b < w'.heap.size)) → Touch B w w' → wpList P ops R rest (a.put o.dst (.slice A' (n + 1) c')) w') : wpList P ops R (o :: rest) a w :=
  wpList_plain hgd fun _ hK => wp_append_new w Q s x t ho E i z bytes ht hi hz hsize hzs hby lo A0 n c0 L B hs hO A c y ys hv s1 hx h63 hbytes hlo fun A' c' w' h2 h3 => hK _ _ (h A' c' w' h2 h3)
theorem step_append_new {ops : Array Oper} {o : Oper} {a : Act} {K : Act → World → Prop} {R : Exit → Act → World → Prop} {X : Prop} (hgd : o.guard = none) (s x : Operand) (t : TypeId)
    (ho : o.op = .call { callee := .builtin .append, args := #[s, x], argTypes := #[t, t] }) (E : TypeId) (i : TypeInfo) (z : Value) (bytes : Nat) (ht : P.underlying t = some (.slice E)) (hi : P.info? E = some i) (hz : i.zero = some z)
    (hsize : i.size = Q.k) (hzs : z.cells.size = Q.k) (hby : i.bytes = bytes) (lo : Nat) (A0 : Option Addr) (n c0 : Nat) (L : List α) (B : Nat → Prop) (hs : a.eval s = .slice A0 n c0) (hO : GrowP Q E lo w A0 n c0 L B)
    (A : Option Addr) (c : Nat) (y : α) (ys : List Value) (hv : a.eval x = .slice A 1 c) (s1 : Rd w w.heap.size A ys) (hx : ∀ w, Q.own w y ys (fun _ => False)) (h63 : n + 1 ≤ maxLen) (hbytes : (n + 1) * bytes ≤ 140737488355328) (hlo : lo ≤ w.heap.size)
    (h : ∀ A' c' w', GrowP Q E lo w' A' (n + 1) c' (L ++ [y]) (fun b => B b ∨ (w.heap.size ≤ b ∧ b < w'.heap.size)) → Touch B w w' → K (a.put o.dst (.slice A' (n + 1) c')) w') :
    if Region.wanted o (yielded ops a.tmps) = true then Oper.wp P o a w K R else X := by
  have hw : Region.wanted o (yielded ops a.tmps) = true := by simp [Region.wanted, hgd]
  rw [if_pos hw]
  exact wp_append_new w Q s x t ho E i z bytes ht hi hz hsize hzs hby lo A0 n c0 L B hs hO A c y ys hv s1 hx h63 hbytes hlo h
end
/-! ### Records of a name and a row -/
def recE {α β : Type} (nm : α → ByteArray) (kids : α → List β) (Q : Elt β) (E : TypeId) (lo : Nat) : Elt α where
  dat x := .r [.s (nm x), .l ((kids x).map Q.dat)]
  own w x cs B := ∃ A n c, cs = [.string (nm x), .slice A n c] ∧ GrowP Q E lo w A n c (kids x) B
  k := 2
  pos := by decide
  toOwns := fun {w x cs B} ⟨A, n, c, hcs, h⟩ => by
    subst hcs
    rw [Owns, OwnsAll]
    refine ⟨[.string (nm x)], [.slice A n c], (fun _ => False), B, rfl, fun b hb => hb.elim, fun b hb => hb, fun b hb => hb.elim, rfl, ?_⟩
    rw [OwnsAll]
    exact ⟨[.slice A n c], [], B, (fun _ => False), rfl, fun b hb => hb, fun b hb => hb.elim, fun b _ hb => hb, h.owns, rfl⟩
  width := fun x => rfl
  same := fun {w w' x cs B} ⟨A, n, c, hcs, h⟩ hB => ⟨A, n, c, hcs, h.same hB⟩
  mono := fun {w x cs B B'} ⟨A, n, c, hcs, h⟩ hB => ⟨A, n, c, hcs, h.mono hB⟩
theorem recE_new {α β : Type} {nm : α → ByteArray} {kids : α → List β} {Q : Elt β} {E : TypeId} {lo : Nat} {x : α} (h : kids x = []) (w : World) : (recE nm kids Q E lo).own w x [.string (nm x), .slice none 0 0] (fun _ => False) :=
  ⟨none, 0, 0, rfl, by rw [h]; exact GrowP.nil Q E lo w _⟩
end Go.Proofs.YthgcodbcafpmhaaDoor
