/- Chapter 8, the reference's FirstUnset: what lies in memory while it looks for the place. -/
import Derived.Test.YtgibhbplgiejpaaGreatChkM
namespace Go.Proofs.YtgibhbplgiejpaaGreat
open Go.RowKit
set_option linter.unusedVariables false
set_option linter.unusedSimpArgs false
def rowsD (R : List (List Bool)) : Dat := .l (R.map bools)
theorem rows_w (R : List (List Bool)) : ∀ x ∈ R.map bools, x.width = 1 := fun x hx => by
  obtain ⟨y, -, rfl⟩ := List.mem_map.1 hx
  rfl
theorem rows_at {w : World} {R : List (List Bool)} {A : Option Addr} {n c j : Nat} (h : Lies w (rowsD R) [.slice A n c]) (hj : j < n) :
    ∃ b off row Ar nr cr, A = some ⟨b, off, none⟩ ∧ b < w.heap.size ∧ R[j]? = some row ∧ Lies w (bools row) [.slice Ar nr cr] ∧ w.cell? ⟨b, off + j, none⟩ = some (.slice Ar nr cr) := by
  obtain ⟨b, off, d, xs, rfl, hbw, hzi, hlie, hlen, hcell0⟩ := Lies.elem (k := 1) h (rows_w R) hj
  obtain ⟨row, hv, rfl⟩ : ∃ v, R[j]? = some v ∧ d = bools v := by
    rw [List.getElem?_map] at hzi
    cases h1 : R[j]? with
    | none => rw [h1] at hzi; cases hzi
    | some x => rw [h1] at hzi; exact ⟨x, rfl, (Option.some.inj hzi).symm⟩
  have hl := hlie
  unfold bools at hlie
  rw [Lies] at hlie
  obtain ⟨Ar, nr, cr, rfl, -⟩ := hlie
  exact ⟨b, off, row, Ar, nr, cr, rfl, hbw, hv, hl, by have h1 := hcell0 0 _ rfl; simpa using h1⟩
theorem rows_head {w : World} {R : List (List Bool)} {A : Option Addr} {n c : Nat} {B : Nat → Prop} (h : Owns w (rowsD R) [.slice A n c] B) (hn : 0 < n) : ∃ g, A = some ⟨g, 0, none⟩ ∧ B g := by
  obtain ⟨g, E, cur, d, xs, Bi, Br, e, hg, -⟩ := Owns.focus (k := 1) h (rows_w R) hn
  exact ⟨g, e, hg⟩
theorem rows_slot {w : World} {R : List (List Bool)} {g n c j : Nat} {B : Nat → Prop} (h : Owns w (rowsD R) [.slice (some ⟨g, 0, none⟩) n c] B) (hj : j < n) :
    ∃ row Ar nr cr, R[j]? = some row ∧ Lies w (bools row) [.slice Ar nr cr] ∧ w.cell? ⟨g, j, none⟩ = some (.slice Ar nr cr) ∧ w.frozen? ⟨g, j, none⟩ = false := by
  obtain ⟨b, off, row, Ar, nr, cr, e, hb, hv, hl, hc⟩ := rows_at h.lies hj
  injection e with e
  injection e with e1 e2
  subst e1 e2
  obtain ⟨g', E, cur, d, xs, Bi, Br, e, -, -, -, -, h3, -, -, h6, h7, -⟩ := Owns.focus (k := 1) h (rows_w R) hj
  obtain rfl : g = g' := by injection e with e; injection e
  exact ⟨row, Ar, nr, cr, hv, hl, by simpa using hc, h7 j⟩
theorem rows_put {w : World} {R : List (List Bool)} {row : List Bool} {g n c j : Nat} {B Bi : Nat → Prop} {v : Value} (h : Owns w (rowsD R) [.slice (some ⟨g, 0, none⟩) n c] B) (hj : j < n) (ho : Owns w (bools row) [v] Bi) (hd : ∀ b, Bi b → ¬ B b) :
    Owns (w.setCell ⟨g, j, none⟩ v) (rowsD (R.set j row)) [.slice (some ⟨g, 0, none⟩) n c] (fun b => B b ∨ Bi b) := by
  have hp := Owns.put (S := fun _ => False) (Bi' := Bi) (d' := bools row) (xs' := [v]) (i := j) (k := 1) h (rows_w R) hj (Touch.refl _ w) (fun b hb => hb.elim) rfl ho hd
  rw [Nat.mul_one] at hp
  unfold rowsD
  rw [List.map_set]
  exact hp
theorem touch1 (w : World) (g j : Nat) (v : Value) : Touch (fun b => b = g) w (w.setCell ⟨g, j, none⟩ v) := (Touch.refl (fun b => b = g) w).setCell (p := ⟨g, j, none⟩) rfl v
theorem size_set (w : World) (p : Addr) (v : Value) : (w.setCell p v).heap.size = w.heap.size := by simp [World.setCell]
/-- The two tables, and the method's box. -/
structure FlQ (W : World) (nm : ByteArray) (A : Option Addr) (n c g1 g2 : Nat) (Bd : Nat → Prop) (R : List (List Bool)) (G : List Bool) (w : World) : Prop where
  rows : Owns w (rowsD R) [.slice (some ⟨g1, 0, none⟩) (n + 1) (n + 1)] Bd
  got : Owns w (bools G) [.slice (some ⟨g2, 0, none⟩) (n + 1) (n + 1)] (fun b => b = g2)
  box : Box W.heap.size [.string nm, .slice A n c] w
  low : Below W.heap.size W w
  bd : ∀ b, Bd b → W.heap.size < b ∧ b ≠ g2 ∧ b < w.heap.size
  g2 : W.heap.size < g2 ∧ g2 < w.heap.size
section
variable {W w w' : World} {nm : ByteArray} {A : Option Addr} {n c g1 g2 : Nat} {Bd : Nat → Prop} {R : List (List Bool)} {G : List Bool}
theorem FlQ.hg1 (h : FlQ W nm A n c g1 g2 Bd R G w) : Bd g1 := by
  obtain ⟨g, e, hg⟩ := rows_head h.rows (by omega)
  obtain rfl : g1 = g := by injection e with e; injection e
  exact hg
theorem FlQ.below (h : FlQ W nm A n c g1 g2 Bd R G w) (hb : Below w.heap.size w w') : FlQ W nm A n c g1 g2 Bd R G w' :=
  ⟨h.rows.below hb, h.got.below hb, h.box.below hb, h.low.trans (hb.mono h.low.size), fun b hB => ⟨(h.bd b hB).1, (h.bd b hB).2.1, Nat.lt_of_lt_of_le (h.bd b hB).2.2 hb.size⟩, ⟨h.g2.1, Nat.lt_of_lt_of_le h.g2.2 hb.size⟩⟩
theorem FlQ.far {g j : Nat} (h : FlQ W nm A n c g1 g2 Bd R G w) (h1 : ¬ Bd g) (h2 : g ≠ g2) (h3 : W.heap.size < g) (v : Value) : FlQ W nm A n c g1 g2 Bd R G (w.setCell ⟨g, j, none⟩ v) :=
  ⟨h.rows.touch (touch1 w g j v) (fun b hb e => h1 (by rw [← e]; exact hb)), h.got.touch (touch1 w g j v) (fun b hb e => h2 (by rw [← e, hb])), h.box.far (by omega) v, h.low.setCell (p := ⟨g, j, none⟩) (by show W.heap.size ≤ g; omega) v, fun b hB => by rw [size_set]; exact h.bd b hB, by rw [size_set]; exact h.g2⟩
theorem FlQ.row {j : Nat} {row : List Bool} {v : Value} {Bi : Nat → Prop} (h : FlQ W nm A n c g1 g2 Bd R G w) (hj : j ≤ n) (ho : Owns w (bools row) [v] Bi) (hBi : ∀ b, Bi b → ¬ Bd b ∧ W.heap.size < b ∧ b ≠ g2 ∧ b < w.heap.size) :
    FlQ W nm A n c g1 g2 (fun b => Bd b ∨ Bi b) (R.set j row) G (w.setCell ⟨g1, j, none⟩ v) := by
  have hb := h.bd g1 h.hg1
  refine ⟨rows_put h.rows (by omega) ho (fun b hb => (hBi b hb).1), h.got.touch (touch1 w g1 j v) (fun b hb2 e => hb.2.1 (by rw [← e, hb2])), h.box.far (by omega) v, h.low.setCell (p := ⟨g1, j, none⟩) (by show W.heap.size ≤ g1; omega) v, fun b hB => ?_, by rw [size_set]; exact h.g2⟩
  rw [size_set]
  rcases hB with hB | hB
  · exact h.bd b hB
  · exact ⟨(hBi b hB).2.1, (hBi b hB).2.2⟩
theorem FlQ.mark {j : Nat} (h : FlQ W nm A n c g1 g2 Bd R G w) (hj : j ≤ n) : FlQ W nm A n c g1 g2 Bd R (G.set j true) (w.setCell ⟨g2, j, none⟩ (.bool true)) :=
  ⟨h.rows.touch (touch1 w g2 j _) (fun b hb e => (h.bd b hb).2.1 e), own_set h.got (by omega) true, h.box.far (by have := h.g2.1; omega) _, h.low.setCell (p := ⟨g2, j, none⟩) (by show W.heap.size ≤ g2; have := h.g2.1; omega) _, fun b hB => by rw [size_set]; exact h.bd b hB, by rw [size_set]; exact h.g2⟩
theorem FlQ.two (h : FlQ W nm A n c g1 g2 Bd R G w) : w.cell? ⟨W.heap.size, 0, none⟩ = some (.string nm) ∧ w.cell? ⟨W.heap.size, 1, none⟩ = some (.slice A n c) := ⟨h.box.2 0 _ rfl, h.box.2 1 _ rfl⟩
/-- A place of both tables. -/
theorem FlQ.at_ (h : FlQ W nm A n c g1 g2 Bd R G w) {j : Nat} (hj : j ≤ n) : ∃ row Ar nr cr v, R[j]? = some row ∧ Lies w (bools row) [.slice Ar nr cr] ∧ w.cell? ⟨g1, j, none⟩ = some (.slice Ar nr cr) ∧ w.frozen? ⟨g1, j, none⟩ = false ∧
    G[j]? = some v ∧ w.cell? ⟨g2, j, none⟩ = some (.bool v) ∧ w.frozen? ⟨g2, j, none⟩ = false := by
  obtain ⟨row, Ar, nr, cr, h1, h2, h3, h4⟩ := rows_slot h.rows (j := j) (by omega)
  obtain ⟨v, h5, h6, h7⟩ := own_slot h.got (j := j) (by omega)
  exact ⟨row, Ar, nr, cr, v, h1, h2, h3, h4, h5, h6, h7⟩
end
/-- In the midst of a round: the instruction's box, and the row that is made. -/
structure FlN (W : World) (nm : ByteArray) (A : Option Addr) (n c g1 g2 : Nat) (Bd : Nat → Prop) (R : List (List Bool)) (G : List Bool) (bx : Nat) (cs : List Value) (An : Option Addr) (nn cn : Nat) (now : List Bool) (w : World) : Prop where
  q : FlQ W nm A n c g1 g2 Bd R G w
  xb : Box bx cs w
  hx : ¬ Bd bx ∧ bx ≠ g2 ∧ W.heap.size < bx
  now : ∃ Bn, Owns w (bools now) [.slice An nn cn] Bn ∧ ∀ b, Bn b → ¬ Bd b ∧ W.heap.size < b ∧ b ≠ g2 ∧ b ≠ bx
section
variable {W w w' : World} {nm : ByteArray} {A : Option Addr} {n c g1 g2 : Nat} {Bd : Nat → Prop} {R : List (List Bool)} {G : List Bool} {bx : Nat} {cs : List Value} {An : Option Addr} {nn cn : Nat} {now : List Bool}
theorem FlN.below (h : FlN W nm A n c g1 g2 Bd R G bx cs An nn cn now w) (hb : Below w.heap.size w w') : FlN W nm A n c g1 g2 Bd R G bx cs An nn cn now w' := by
  obtain ⟨Bn, h1, h2⟩ := h.now
  exact ⟨h.q.below hb, h.xb.below hb, h.hx, Bn, h1.below hb, h2⟩
theorem FlN.head (h : FlN W nm A n c g1 g2 Bd R G bx cs An nn cn now w) (hn : 0 < nn) : ∃ g, An = some ⟨g, 0, none⟩ := by
  obtain ⟨Bn, h1, h2⟩ := h.now
  obtain ⟨g, e, -⟩ := own_head h1 hn
  exact ⟨g, e⟩
theorem FlN.slot {g t : Nat} (h : FlN W nm A n c g1 g2 Bd R G bx cs (some ⟨g, 0, none⟩) nn cn now w) (ht : t < nn) : (∃ u, w.cell? ⟨g, t, none⟩ = some u) ∧ w.frozen? ⟨g, t, none⟩ = false := by
  obtain ⟨Bn, h1, h2⟩ := h.now
  obtain ⟨v, -, h3, h4⟩ := own_slot h1 ht
  exact ⟨⟨_, h3⟩, h4⟩
theorem FlN.write {g t : Nat} (h : FlN W nm A n c g1 g2 Bd R G bx cs (some ⟨g, 0, none⟩) nn cn now w) (ht : t < nn) : FlN W nm A n c g1 g2 Bd R G bx cs (some ⟨g, 0, none⟩) nn cn (now.set t true) (w.setCell ⟨g, t, none⟩ (.bool true)) := by
  obtain ⟨Bn, h1, h2⟩ := h.now
  obtain ⟨g', e, hg⟩ := own_head h1 (by omega)
  obtain rfl : g = g' := by injection e with e; injection e
  obtain ⟨k1, k2, k3, k4⟩ := h2 g hg
  exact ⟨h.q.far k1 k3 k2 _, h.xb.far k4 _, h.hx, Bn, own_set h1 ht true, h2⟩
theorem FlN.lies (h : FlN W nm A n c g1 g2 Bd R G bx cs An nn cn now w) : Lies w (bools now) [.slice An nn cn] := by
  obtain ⟨Bn, h1, h2⟩ := h.now
  exact h1.lies
/-- The row is stored, in a new block. -/
theorem FlN.row {j : Nat} {row : List Bool} {v : Value} (h : FlN W nm A n c g1 g2 Bd R G bx cs An nn cn now w) (hb : Below w.heap.size w w') (hj : j ≤ n) (ho : Owns w' (bools row) [v] (rng w.heap.size w'.heap.size)) :
    ∃ Bd', FlN W nm A n c g1 g2 Bd' (R.set j row) G bx cs An nn cn now (w'.setCell ⟨g1, j, none⟩ v) := by
  have h' := h.below hb
  have hlw := h.q.low.size
  have hg1 := h'.q.hg1
  obtain ⟨Bn, k1, k2⟩ := h.now
  have hbx := h.xb.1
  have hgl := h.q.g2
  have hnlt : ∀ b, Bn b → b < w.heap.size ∨ True := fun b hb => Or.inr trivial
  -- the row that is made lies below what is new
  have hlim : ∃ Bm, Owns w (bools now) [.slice An nn cn] Bm ∧ (∀ b, Bm b → Bn b ∧ b < w.heap.size) := by
    by_cases hz : 0 < nn
    · obtain ⟨g, rfl, hg⟩ := own_head k1 hz
      have hlt : g < w.heap.size := by
        obtain ⟨v, -, hc, -⟩ := own_slot k1 hz
        unfold World.cell? at hc
        by_cases hl : g < w.heap.size
        · exact hl
        · simp [Array.getElem?_eq_none (Nat.le_of_not_lt hl)] at hc
      refine ⟨fun b => b = g, ?_, fun b e => by subst e; exact ⟨hg, hlt⟩⟩
      unfold bools at k1 ⊢
      rw [Owns] at k1 ⊢
      obtain ⟨A1, n1, c1, e, hl, hh⟩ := k1
      refine ⟨A1, n1, c1, e, hl, ?_⟩
      rcases hh with hh | ⟨g', E, cur, B', e', hB, hB', hhp, hw, hO⟩
      · exact Or.inl hh
      · have e2 : A1 = some ⟨g, 0, none⟩ := by simp at e; exact e.1.symm
        obtain rfl : g = g' := by rw [e2] at e'; injection e' with e'; injection e'
        exact Or.inr ⟨g, E, cur, (fun _ => False), e', rfl, fun b hb => hb.elim, hhp, hw, LiesAll.owns (flatAll_of (bools_flat now)) hO.lies⟩
    · refine ⟨fun _ => False, ?_, fun b hb => hb.elim⟩
      have hl := bools_len k1.lies
      have : now = [] := List.eq_nil_of_length_eq_zero (by omega)
      subst this
      unfold bools
      rw [Owns]
      exact ⟨An, nn, cn, rfl, by simp at hl ⊢; omega, Or.inl rfl⟩
  obtain ⟨Bm, m1, m2⟩ := hlim
  refine ⟨_, h'.q.row hj ho (fun b hb2 => ⟨fun hB => ?_, ?_, ?_, hb2.2⟩), (h'.xb.far (by have := h'.hx.1; intro e; rw [e] at hg1; exact this hg1) v), ⟨?_, h.hx.2⟩, Bm, (m1.below hb).touch (touch1 w' g1 j v) (fun b hbm e => ?_), fun b hbm => ⟨?_, (k2 b (m2 b hbm).1).2⟩⟩
  · have h1 := (h.q.bd b hB).2.2
    have h2 := hb2.1
    omega
  · have h2 := hb2.1; omega
  · have h2 := hb2.1; omega
  · rintro (hB | hB)
    · exact h.hx.1 hB
    · have h2 := hB.1; omega
  · have h3 := (k2 b (m2 b hbm).1).1
    rw [e] at h3
    exact h3 hg1
  · rintro (hB | hB)
    · exact (k2 b (m2 b hbm).1).1 hB
    · have h2 := hB.1; have h3 := (m2 b hbm).2; omega
theorem FlN.mark {j : Nat} (h : FlN W nm A n c g1 g2 Bd R G bx cs An nn cn now w) (hj : j ≤ n) : FlN W nm A n c g1 g2 Bd R (G.set j true) bx cs An nn cn now (w.setCell ⟨g2, j, none⟩ (.bool true)) := by
  obtain ⟨Bn, h1, h2⟩ := h.now
  exact ⟨h.q.mark hj, h.xb.far (Ne.symm h.hx.2.1) _, h.hx, Bn, h1.touch (touch1 w g2 j _) (fun b hb e => (h2 b hb).2.2.1 e), h2⟩
theorem FlN.six {f0 f1 f2 f3 f4 : Int} {f5 : ByteArray} (h : FlN W nm A n c g1 g2 Bd R G bx [.int .i64 f0, .int .i64 f1, .int .i64 f2, .int .i64 f3, .int .i64 f4, .string f5] An nn cn now w) :
    w.cell? ⟨bx, 0, none⟩ = some (.int .i64 f0) ∧ w.cell? ⟨bx, 1, none⟩ = some (.int .i64 f1) ∧ w.cell? ⟨bx, 2, none⟩ = some (.int .i64 f2) ∧ w.cell? ⟨bx, 3, none⟩ = some (.int .i64 f3) ∧ w.cell? ⟨bx, 4, none⟩ = some (.int .i64 f4) ∧ w.cell? ⟨bx, 5, none⟩ = some (.string f5) :=
  ⟨h.xb.2 0 _ rfl, h.xb.2 1 _ rfl, h.xb.2 2 _ rfl, h.xb.2 3 _ rfl, h.xb.2 4 _ rfl, h.xb.2 5 _ rfl⟩
end
end Go.Proofs.YtgibhbplgiejpaaGreat
