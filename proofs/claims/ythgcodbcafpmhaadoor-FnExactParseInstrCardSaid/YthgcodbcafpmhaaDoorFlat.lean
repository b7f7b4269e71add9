/- Of no program: slices of records of several cells: what reads as a list of records, what the call owns; 'append' onto it. -/
import Derived.Test.YthgcodbcafpmhaaDoorApp
namespace Go.Proofs.YthgcodbcafpmhaaDoor
open Go.RowKit

/-- How a record lies in its cells. -/
structure Lay (α : Type) where
  cells : α → List Value
  size : Nat
  pos : 0 < size
  len : ∀ a, (cells a).length = size
  one : ∀ a, ∀ u ∈ cells a, u.oneCell' = true
def Lay.flat {α : Type} (l : Lay α) (L : List α) : List Value := L.flatMap l.cells
section
variable {α : Type} (l : Lay α)
theorem Lay.flat_len (L : List α) : (l.flat L).length = L.length * l.size := by
  induction L with
  | nil => simp [Lay.flat]
  | cons a L ih =>
    have : l.flat (a :: L) = l.cells a ++ l.flat L := rfl
    rw [this, List.length_append, ih, l.len, List.length_cons, Nat.add_mul, Nat.one_mul]
    omega
theorem Lay.flat_append (a b : List α) : l.flat (a ++ b) = l.flat a ++ l.flat b := List.flatMap_append
theorem Lay.flat_one (a : α) : l.flat [a] = l.cells a := by simp [Lay.flat]
theorem Lay.flat_cons (a : α) (L : List α) : l.flat (a :: L) = l.cells a ++ l.flat L := rfl
theorem Lay.flat_oneCell (L : List α) : ∀ u ∈ l.flat L, u.oneCell' = true := fun u hu => by
  obtain ⟨a, -, h⟩ := List.mem_flatMap.1 hu
  exact l.one a u h
theorem Lay.flat_at : ∀ (L : List α) (i j : Nat) (x : α), L[i]? = some x → j < l.size → (l.flat L)[i * l.size + j]? = (l.cells x)[j]?
  | [], i, j, x, h, _ => by simp at h
  | a :: L, 0, j, x, h, hj => by
    obtain rfl : a = x := by simpa using h
    rw [l.flat_cons, Nat.zero_mul, Nat.zero_add, List.getElem?_append_left (by rw [l.len]; exact hj)]
  | a :: L, i + 1, j, x, h, hj => by
    have h' : L[i]? = some x := by simpa using h
    rw [l.flat_cons, List.getElem?_append_right (by rw [l.len, Nat.add_mul]; omega), l.len]
    have e : (i + 1) * l.size + j - l.size = i * l.size + j := by rw [Nat.add_mul]; omega
    rw [e]
    exact Lay.flat_at L i j x h' hj
end

/-- The slice reads as these records. -/
def FR {α : Type} (l : Lay α) (w : World) (A : Option Addr) (n : Nat) (L : List α) : Prop := L.length = n ∧ Rd w w.heap.size A (l.flat L)
section
variable {α : Type} {l : Lay α} {w w' : World} {A : Option Addr} {n : Nat} {L : List α}
theorem FR.below (h : FR l w A n L) (hb : Below w.heap.size w w') : FR l w' A n L := ⟨h.1, (h.2.below hb).more hb.size⟩
theorem FR.alloc (h : FR l w A n L) (o : Obj) : FR l (w.alloc o) A n L := h.below ((Below.refl _ _).alloc (Nat.le_refl _) o)
theorem FR.at_ (h : FR l w A n L) {i : Nat} (hi : i < n) : ∃ b off x, A = some ⟨b, off, none⟩ ∧ b < w.heap.size ∧ L[i]? = some x ∧ ∀ j v, (l.cells x)[j]? = some v → w.cell? ⟨b, off + (i * l.size + j), none⟩ = some v := by
  have hl : i < L.length := by rw [h.1]; exact hi
  have hx : L[i]? = some L[i] := List.getElem?_eq_getElem hl
  have hp := l.pos
  have h0 : i * l.size < (l.flat L).length := by
    rw [l.flat_len]
    exact Nat.mul_lt_mul_of_pos_right hl hp
  rcases h.2 with hn | ⟨b, off, e, hb, hc⟩
  · rw [hn] at h0; simp at h0
  · refine ⟨b, off, L[i], e, hb, hx, fun j v hj => hc _ v ?_⟩
    have hjl : j < l.size := by
      have := (List.getElem?_eq_some_iff.1 hj).1
      rw [l.len] at this
      exact this
    rw [l.flat_at L i j _ hx hjl]
    exact hj
theorem FR.nil : FR l w A 0 [] := ⟨rfl, Or.inl rfl⟩
theorem FR.one (l : Lay α) (w : World) (x : α) (E : TypeId) : FR l (w.alloc (.cells (l.cells x).toArray E)) (some ⟨w.heap.size, 0, none⟩) 1 [x] := by
  refine ⟨rfl, Or.inr ⟨w.heap.size, 0, rfl, by simp, fun j v hj => ?_⟩⟩
  rw [l.flat_one] at hj
  rw [Nat.zero_add, cell_of_row _ w.heap.size j (l.cells x).toArray E (0, 0) (by show (w.heap.push _)[w.heap.size]? = _; simp)]
  simpa using hj
end

/-- The slice owns these records, in a block from lo on and below hi. -/
def FO {α : Type} (l : Lay α) (E : TypeId) (lo hi : Nat) (w : World) (A : Option Addr) (n c : Nat) (L : List α) : Prop :=
  L.length = n ∧ w.ownsRow lo E l.size (.slice A n c) n (l.flat L) ∧ hi ≤ w.heap.size ∧ ∀ a, A = some a → a.block < hi
section
variable {α : Type} {l : Lay α} {E : TypeId} {lo hi : Nat} {w w' : World} {A : Option Addr} {n c : Nat} {L : List α}
theorem FO.blk (h : FO l E lo hi w A n c L) : ∀ g, (Value.slice A n c).ownBlock = some g → lo ≤ g ∧ g < hi := by
  intro g hg
  refine ⟨(h.2.1.lt g hg).1, ?_⟩
  cases A with
  | none => simp [Value.ownBlock] at hg
  | some a =>
    simp [Value.ownBlock] at hg
    have := h.2.2.2 a rfl
    omega
theorem FO.step {lo' hi' : Nat} (h : FO l E lo hi w A n c L) (hs : Step lo' hi' w w') (hd : hi ≤ lo' ∨ hi' ≤ lo) : FO l E lo hi w' A n c L := by
  refine ⟨h.1, ⟨h.2.1.1, ?_⟩, Nat.le_trans h.2.2.1 hs.size, h.2.2.2⟩
  rcases h.2.1.2 with hn | ⟨g, cap, cur, hv, hb, hgg, rest⟩
  · exact .inl hn
  · refine .inr ⟨g, cap, cur, hv, hb, ?_, rest⟩
    have hlt : g < hi := by
      injection hv with hA
      have := h.2.2.2 _ hA
      simpa using this
    rw [hs.block g (Array.getElem?_eq_some_iff.1 hgg).1 (by omega)]
    exact hgg
theorem FO.below (h : FO l E lo hi w A n c L) (hb : Below w.heap.size w w') : FO l E lo hi w' A n c L :=
  h.step (Step.of_below (lo := hi) (hi := hi) hb) (Or.inl (Nat.le_refl _))
theorem FO.more {hi' : Nat} (h : FO l E lo hi w A n c L) (hh : hi ≤ hi') (hs : hi' ≤ w.heap.size) : FO l E lo hi' w A n c L := ⟨h.1, h.2.1, hs, fun a e => by have := h.2.2.2 a e; omega⟩
theorem FO.less {lo' : Nat} (h : FO l E lo hi w A n c L) (hh : lo' ≤ lo) : FO l E lo' hi w A n c L :=
  ⟨h.1, ⟨h.2.1.1, by
    rcases h.2.1.2 with hn | ⟨g, cap, cur, hv, hb, rest⟩
    · exact .inl hn
    · exact .inr ⟨g, cap, cur, hv, by omega, rest⟩⟩, h.2.2⟩
theorem FO.fr (h : FO l E lo hi w A n c L) : FR l w A n L := by
  refine ⟨h.1, ?_⟩
  rcases h.2.1.2 with ⟨hv, hn⟩ | ⟨g, cap, cur, hv, hb, hgg, hnc, hcm, hcs, htk⟩
  · left
    have : L = [] := List.eq_nil_of_length_eq_zero (by have := h.1; omega)
    subst this
    rfl
  · right
    injection hv with hA
    refine ⟨g, 0, hA, (Array.getElem?_eq_some_iff.1 hgg).1, fun j v hj => ?_⟩
    rw [Nat.zero_add, cell_of_row w g j cur E (0, 0) hgg, ← hj, ← htk, List.getElem?_take]
    have hjl : j < n * l.size := by
      have h1 := (List.getElem?_eq_some_iff.1 hj).1
      have h2 := h.2.1.1
      omega
    rw [if_pos hjl]
    simp
theorem FO.cap (h : FO l E lo hi w A n c L) : n ≤ c ∧ c ≤ maxLen := by
  rcases h.2.1.2 with ⟨hv, hn⟩ | ⟨g, cap, cur, hv, hb, hgg, hnc, hcm, hcs, htk⟩
  · injection hv with _ _ h3
    unfold maxLen; omega
  · injection hv with _ _ h3
    subst h3
    exact ⟨hnc, hcm⟩
theorem FO.mk_ (v : Value) {m : Nat} {ys : List Value} (h : w.ownsRow lo E l.size v m ys) (hm : L.length = m) (hy : ys = l.flat L) : ∃ A c, v = .slice A m c ∧ FO l E lo w.heap.size w A m c L := by
  subst hy
  rcases h.2 with ⟨rfl, rfl⟩ | ⟨g, cap, cur, rfl, hb, hgg, rest⟩
  · exact ⟨none, 0, rfl, hm, h, Nat.le_refl _, fun a e => by cases e⟩
  · exact ⟨_, _, rfl, hm, h, Nat.le_refl _, fun a e => by
      obtain rfl := Option.some.inj e
      exact (Array.getElem?_eq_some_iff.1 hgg).1⟩
/-- The cells that are stored into. -/
theorem FO.slot (h : FO l E lo hi w A n c L) {i : Nat} (hi' : i < n) : ∃ g x, A = some ⟨g, 0, none⟩ ∧ lo ≤ g ∧ g < hi ∧ L[i]? = some x ∧
    (∀ j v, (l.cells x)[j]? = some v → w.cell? ⟨g, i * l.size + j, none⟩ = some v) ∧ ∀ j, w.frozen? ⟨g, j, none⟩ = false := by
  have hx : L[i]? = some (L[i]'(by rw [h.1]; exact hi')) := List.getElem?_eq_getElem _
  rcases h.2.1.2 with ⟨hv, hn⟩ | ⟨g, cap, cur, hv, hb, hgg, hnc, hcm, hcs, htk⟩
  · omega
  · injection hv with hA
    subst hA
    refine ⟨g, _, rfl, hb, h.2.2.2 _ rfl, hx, fun j v hj => ?_, fun j => h.2.1.frozenAt j⟩
    have hjl : j < l.size := by
      have := (List.getElem?_eq_some_iff.1 hj).1
      rw [l.len] at this
      exact this
    have hlt : i * l.size + j < n * l.size := by
      have : (i + 1) * l.size ≤ n * l.size := Nat.mul_le_mul_right _ hi'
      rw [Nat.add_mul] at this
      omega
    rw [h.2.1.cellAt _ hlt, l.flat_at L i j _ hx hjl]
    exact hj
theorem FO.alloc (h : FO l E lo hi w A n c L) (o : Obj) : FO l E lo hi (w.alloc o) A n c L := h.below ((Below.refl _ _).alloc (Nat.le_refl _) o)
theorem FO.none_ (l : Lay α) (E : TypeId) (w : World) : FO l E w.heap.size (w.heap.size + 1) (w.alloc (.cells #[] E)) (some ⟨w.heap.size, 0, none⟩) 0 0 [] :=
  ⟨rfl, World.ownsRow_lit w #[] 0 (Nat.le_refl _) (by unfold maxLen; omega) (by simp), by simp, fun a e => by obtain rfl := Option.some.inj e; simp⟩
theorem FO.nil_ (l : Lay α) (E : TypeId) (lo hi : Nat) (w : World) (hh : hi ≤ w.heap.size) : FO l E lo hi w none 0 0 [] :=
  ⟨rfl, World.ownsRow_nil w lo E l.size, hh, fun a e => by cases e⟩
end
/-- Cells stored one behind the other. -/
def putCells (w : World) (g o : Nat) : List Value → World
  | [] => w
  | v :: vs => putCells (w.setCell ⟨g, o, none⟩ v) g (o + 1) vs
def setRange (xs : List Value) (o : Nat) : List Value → List Value
  | [] => xs
  | v :: vs => setRange (xs.set o v) (o + 1) vs
theorem setRange_len : ∀ (vs xs : List Value) (o : Nat), (setRange xs o vs).length = xs.length
  | [], _, _ => rfl
  | v :: vs, xs, o => by rw [setRange, setRange_len vs, List.length_set]
theorem setRange_at : ∀ (vs xs : List Value) (o j : Nat), o + vs.length ≤ xs.length → (setRange xs o vs)[j]? = if o ≤ j ∧ j < o + vs.length then vs[j - o]? else xs[j]?
  | [], xs, o, j, _ => by
    rw [if_neg (by rw [List.length_nil]; omega)]
    rfl
  | v :: vs, xs, o, j, h => by
    rw [List.length_cons] at h
    rw [setRange, setRange_at vs (xs.set o v) (o + 1) j (by rw [List.length_set]; omega), List.length_cons]
    by_cases h1 : o + 1 ≤ j ∧ j < o + 1 + vs.length
    · rw [if_pos h1, if_pos (by omega)]
      have e : j - o = (j - (o + 1)) + 1 := by omega
      rw [e, List.getElem?_cons_succ]
    · rw [if_neg h1, List.getElem?_set]
      by_cases h2 : o = j
      · subst h2
        rw [if_pos rfl, if_pos (by omega), if_pos (by omega)]
        simp
      · rw [if_neg h2, if_neg (by omega)]
section
variable {α : Type} {l : Lay α}
theorem flat_set (l : Lay α) (L : List α) (i : Nat) (x : α) (hi : i < L.length) : l.flat (L.set i x) = setRange (l.flat L) (i * l.size) (l.cells x) := by
  have hmul : (i + 1) * l.size ≤ L.length * l.size := Nat.mul_le_mul_right _ hi
  rw [Nat.add_mul, Nat.one_mul] at hmul
  apply List.ext_getElem?
  intro j
  rw [setRange_at _ _ _ _ (by rw [l.len, l.flat_len]; exact hmul), l.len]
  by_cases hj : j < L.length * l.size
  · have hp := l.pos
    have hq : j / l.size < L.length := Nat.div_lt_of_lt_mul (by rw [Nat.mul_comm]; exact hj)
    have hr : j % l.size < l.size := Nat.mod_lt _ hp
    have e : j = j / l.size * l.size + j % l.size := by rw [Nat.mul_comm]; exact (Nat.div_add_mod _ _).symm
    by_cases hij : i = j / l.size
    · have hx : (L.set i x)[j / l.size]? = some x := by rw [← hij, List.getElem?_set, if_pos rfl, if_pos hi]
      rw [← hij] at e
      rw [if_pos (by omega)]
      have h1 := l.flat_at (L.set i x) (j / l.size) (j % l.size) x hx hr
      rw [← hij, ← e] at h1
      rw [h1]
      congr 1
      omega
    · have hx : (L.set i x)[j / l.size]? = some (L[j / l.size]'hq) := by rw [List.getElem?_set, if_neg hij, List.getElem?_eq_getElem hq]
      have h1 := l.flat_at (L.set i x) (j / l.size) (j % l.size) _ hx hr
      have h2 := l.flat_at L (j / l.size) (j % l.size) _ (List.getElem?_eq_getElem hq) hr
      rw [← e] at h1 h2
      rw [h1, ← h2, if_neg ?_]
      intro hc
      have hcase : i + 1 ≤ j / l.size ∨ j / l.size + 1 ≤ i := by omega
      rcases hcase with hcase | hcase
      · have := Nat.mul_le_mul_right l.size hcase
        rw [Nat.add_mul, Nat.one_mul] at this
        omega
      · have := Nat.mul_le_mul_right l.size hcase
        rw [Nat.add_mul, Nat.one_mul] at this
        omega
  · rw [List.getElem?_eq_none (by rw [l.flat_len, List.length_set]; omega), if_neg (by omega), List.getElem?_eq_none (by rw [l.flat_len]; omega)]
theorem ownsRow_put : ∀ (vs : List Value) {w : World} {base : Nat} {e : TypeId} {size g n cap : Nat} {xs : List Value} (o : Nat), w.ownsRow base e size (.slice (some ⟨g, 0, none⟩) n cap) n xs →
    (putCells w g o vs).ownsRow base e size (.slice (some ⟨g, 0, none⟩) n cap) n (setRange xs o vs) ∧ w.grownBy (putCells w g o vs) (some g)
  | [], w, _, _, _, g, _, _, _, _, h => ⟨h, World.grownBy.refl w _⟩
  | v :: vs, w, base, e, size, g, n, cap, xs, o, h => by
    obtain ⟨h1, h2⟩ := h.stored o v
    obtain ⟨h3, h4⟩ := ownsRow_put vs (o + 1) h1
    exact ⟨h3, ⟨h4.os.trans h2.os, h4.tape.trans h2.tape, h4.output.trans h2.output, Nat.le_trans h2.size h4.size, fun k hk hne => (h4.block k (Nat.lt_of_lt_of_le hk h2.size) hne).trans (h2.block k hk hne)⟩⟩
theorem putCells_size : ∀ (vs : List Value) (w : World) (g o : Nat), (putCells w g o vs).heap.size = w.heap.size
  | [], _, _, _ => rfl
  | v :: vs, w, g, o => by rw [putCells, putCells_size vs]; simp [World.setCell]
/-- A record is stored. -/
theorem FO.put {E : TypeId} {lo hi : Nat} {w : World} {A : Option Addr} {n c : Nat} {L : List α} (h : FO l E lo hi w A n c L) {g i : Nat} (hA : A = some ⟨g, 0, none⟩) (hi' : i < n) (x : α) :
    FO l E lo hi (putCells w g (i * l.size) (l.cells x)) A n c (L.set i x) ∧ Step lo hi w (putCells w g (i * l.size) (l.cells x)) := by
  subst hA
  obtain ⟨h1, h2⟩ := ownsRow_put (l.cells x) (i * l.size) h.2.1
  refine ⟨⟨by rw [List.length_set]; exact h.1, by rw [flat_set l L i x (by rw [h.1]; exact hi')]; exact h1, by rw [putCells_size]; exact h.2.2.1, h.2.2.2⟩, Step.of_grown h2 ?_⟩
  intro g' hg
  obtain rfl := Option.some.inj hg
  exact h.blk g rfl
end
/-- A new slice comes back, that owns L; what was there stands. -/
def FFresh {α : Type} (l : Lay α) (E : TypeId) (L : List α) (w : World) (e : Ending) (w' : World) : Prop :=
  ∃ A n c, e = .returned (.slice A n c) ∧ FO l E w.heap.size w'.heap.size w' A n c L ∧ Below w.heap.size w w'
theorem FFresh.ret {α : Type} {l : Lay α} {E : TypeId} {L : List α} {w w' : World} {A : Option Addr} {n c : Nat} (h : FO l E w.heap.size w'.heap.size w' A n c L) (hb : Below w.heap.size w w') : FFresh l E L w (.returned (.slice A n c)) w' := ⟨A, n, c, rfl, h, hb⟩
section
variable {P : Program} (w : World)
theorem run_append_fr {α : Type} (l : Lay α) (t ty E : TypeId) (i : TypeInfo) (z : Value) (bytes : Nat) (ht : P.underlying t = some (.slice E)) (hi : P.info? E = some i) (hz : i.zero = some z)
    (hsize : i.size = l.size) (hzs : z.cells.size = l.size) (hby : i.bytes = bytes) (lo hi' : Nat) (A0 : Option Addr) (n c0 : Nat) (ys : List α) (hO : FO l E lo hi' w A0 n c0 ys)
    (A : Option Addr) (m c : Nat) (zs : List α) (hR : FR l w A m zs) (h63 : n + m ≤ maxLen) (hbytes : (n + m) * bytes ≤ 140737488355328) (hlo : lo ≤ w.heap.size) :
    ∃ A' c' w', (Builtin.append_ #[t, t] ty #[.slice A0 n c0, .slice A m c]).run P w = .ok (.slice A' (n + m) c') w' ∧ FO l E lo w'.heap.size w' A' (n + m) c' (ys ++ zs) ∧ Step lo hi' w w' := by
  have hfin : ∀ v' w', w'.ownsRow lo E l.size v' (n + m) (l.flat ys ++ l.flat zs) → w.grownBy w' (Value.slice A0 n c0).ownBlock →
      (Builtin.append_ #[t, t] ty #[.slice A0 n c0, .slice A m c]).run P w = .ok v' w' →
      ∃ A' c' w', (Builtin.append_ #[t, t] ty #[.slice A0 n c0, .slice A m c]).run P w = .ok (.slice A' (n + m) c') w' ∧ FO l E lo w'.heap.size w' A' (n + m) c' (ys ++ zs) ∧ Step lo hi' w w' := by
    intro v' w' h1 h2 h3
    obtain ⟨A', c', rfl, h⟩ := FO.mk_ (l := l) (L := ys ++ zs) v' h1 (by rw [List.length_append, hO.1, hR.1]) (l.flat_append _ _).symm
    exact ⟨A', c', w', h3, h, Step.of_grown h2 hO.blk⟩
  have hcase : (m = 0 ∧ zs = [] ∧ A = none) ∨ ∃ ad, A = some ad := by
    cases A with
    | some ad => exact Or.inr ⟨ad, rfl⟩
    | none =>
      left
      rcases hR.2 with h | ⟨b, off, e, _⟩
      · have h0 := congrArg List.length h
        rw [l.flat_len] at h0
        have hp := l.pos
        have : zs.length = 0 := by
          rcases Nat.mul_eq_zero.1 h0 with h1 | h1
          · exact h1
          · omega
        obtain rfl := List.eq_nil_of_length_eq_zero this
        exact ⟨by have := hR.1; simpa using this.symm, rfl, rfl⟩
      · cases e
  rcases hcase with ⟨rfl, rfl, rfl⟩ | ⟨ad, rfl⟩
  · exact hfin _ w (by simpa [Lay.flat] using hO.2.1) (World.grownBy.refl w _) (run_append_of_nil w lo t ty E i l.size ht hi _ n _ hO.2.1 c)
  · have hcells : ∀ j u, (l.flat zs)[j]? = some u → w.cell? (ad.add j) = some u := by
      intro j u hu
      rcases hR.2 with h | ⟨b, off, e, hb, hc⟩
      · rw [h] at hu; simp at hu
      · obtain rfl := Option.some.inj e
        rw [Addr.add_lit]
        exact hc j u hu
    obtain ⟨v', w', hrun, h2, h3, _, _⟩ := run_append_own_at (P := P) w lo t ty E i z l.size bytes ht hi hz hsize hby hzs l.pos _ n _ hO.2.1 ad m c (l.flat zs) (by rw [l.flat_len, hR.1]) hcells (l.flat_oneCell zs) h63 hbytes hlo
    exact hfin v' w' h2 h3 hrun
theorem wp_append_fr {α : Type} (l : Lay α) {o : Oper} {a : Act} {K : Act → World → Prop} {Q : Exit → Act → World → Prop} (s x : Operand) (t : TypeId)
    (ho : o.op = .call { callee := .builtin .append, args := #[s, x], argTypes := #[t, t] })
    (E : TypeId) (i : TypeInfo) (z : Value) (bytes : Nat) (ht : P.underlying t = some (.slice E)) (hi : P.info? E = some i) (hz : i.zero = some z)
    (hsize : i.size = l.size) (hzs : z.cells.size = l.size) (hby : i.bytes = bytes) (lo hi' : Nat) (A0 : Option Addr) (n c0 : Nat) (ys : List α) (hs : a.eval s = .slice A0 n c0) (hO : FO l E lo hi' w A0 n c0 ys)
    (A : Option Addr) (m c : Nat) (zs : List α) (hx : a.eval x = .slice A m c) (hR : FR l w A m zs) (h63 : n + m ≤ maxLen) (hbytes : (n + m) * bytes ≤ 140737488355328) (hlo : lo ≤ w.heap.size)
    (h : ∀ A' c' w', FO l E lo w'.heap.size w' A' (n + m) c' (ys ++ zs) → Step lo hi' w w' → K (a.put o.dst (.slice A' (n + m) c')) w') : o.wp P a w K Q := by
  obtain ⟨A', c', w', hrun, h2, h3⟩ := run_append_fr (P := P) w l t o.type E i z bytes ht hi hz hsize hzs hby lo hi' A0 n c0 ys hO A m c zs hR h63 hbytes hlo
  unfold Oper.wp execOp
  simp only [ho, resolve, invoke, builtin, Sem.run_bind, Sem.run_pure, Result.andThen_ok, List.map_toArray, List.map_cons, List.map_nil, hs, hx, hrun]
  exact h A' c' w' h2 h3
theorem wpList_append_fr {α : Type} (l : Lay α) {ops : Array Oper} {rest : List Oper} {o : Oper} {a : Act} {Q : Exit → Act → World → Prop} (hgd : o.guard = none) (s x : Operand) (t : TypeId)
    (ho : o.op = .call { callee := .builtin .append, args := #[s, x], argTypes := #[t, t] })
    (E : TypeId) (i : TypeInfo) (z : Value) (bytes : Nat) (ht : P.underlying t = some (.slice E)) (hi : P.info? E = some i) (hz : i.zero = some z)
    (hsize : i.size = l.size) (hzs : z.cells.size = l.size) (hby : i.bytes = bytes) (lo hi' : Nat) (A0 : Option Addr) (n c0 : Nat) (ys : List α) (hs : a.eval s = .slice A0 n c0) (hO : FO l E lo hi' w A0 n c0 ys)
    (A : Option Addr) (m c : Nat) (zs : List α) (hx : a.eval x = .slice A m c) (hR : FR l w A m zs) (h63 : n + m ≤ maxLen) (hbytes : (n + m) * bytes ≤ 140737488355328) (hlo : lo ≤ w.heap.size)
    (h : ∀ A' c' w', FO l E lo w'.heap.size w' A' (n + m) c' (ys ++ zs) → Step lo hi' w w' → wpList P ops Q rest (a.put o.dst (.slice A' (n + m) c')) w') : wpList P ops Q (o :: rest) a w :=
  wpList_plain hgd fun _ hK => wp_append_fr w l s x t ho E i z bytes ht hi hz hsize hzs hby lo hi' A0 n c0 ys hs hO A m c zs hx hR h63 hbytes hlo fun A' c' w' h2 h3 => hK _ _ (h A' c' w' h2 h3)
end
end Go.Proofs.YthgcodbcafpmhaaDoor
