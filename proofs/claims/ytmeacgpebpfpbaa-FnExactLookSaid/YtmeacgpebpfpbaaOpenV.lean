/- What a law is handed: records of two integers, and slices of them. -/
import Derived.Test.YtmeacgpebpfpbaaVal
import Derived.Test.YtmeacgpebpfpbaaBase
import Derived.Lib.SmallJoins
import Derived.Deep.Slices
import Derived.Deep.Fields
import Derived.ChangeSame
namespace Go.Proofs.Ytmeacgpebpfpbaa
open Go.RowKit Go.Joins Go.ChangeShapes Go.WideShapes Go.Deep
theorem int_cell {H : Type} {enc : TypeId × Value → H} {P : Program} {w : World} {base : Nat} {spare : Nat → Bool} {held : Bool} {E : TypeId} {n : Nat} {c : Value} {y : DataW H × List MemPlace}
    (he : P.underlying E = some (.int .i64)) (h : DataW.trod enc P w base spare held n E [c] = some y) : ∃ a : Int, c = .int .i64 a ∧ y.2 = [] ∧ (-9223372036854775808 ≤ a ∧ a ≤ 9223372036854775807) := by
  obtain ⟨a, e0, rfl, wa⟩ := DataW.trod_int he h
  simp at e0
  exact ⟨a, e0, rfl, wf_bounds wa⟩
/-- One record by value. -/
theorem open_pair {H : Type} {enc : TypeId × Value → H} {P : Program} {W : World} {r : Reach} {b0 base : Nat} {spare : Nat → Bool} {held : Bool} {T E : TypeId} {f0 f1 : Field} {v : Value} {d : DataW H} {p : List MemPlace}
    (hs : P.underlying T = some (.struct #[f0, f1])) (h0 : f0.type = E) (h1 : f1.type = E) (he : P.underlying E = some (.int .i64)) (hone : oneCellFields P #[f0, f1] = true) (hC : P.cellsOf T = 2)
    (hv : Value.okWide P W r b0 T v) (h : DataW.Trod enc P W base spare held T v d p) : ∃ x : V, v = .agg #[.int .i64 x.kind, .int .i64 x.n] ∧ (-9223372036854775808 ≤ x.kind ∧ x.kind ≤ 9223372036854775807) ∧ (-9223372036854775808 ≤ x.n ∧ x.n ≤ 9223372036854775807) := by
  obtain ⟨c0, c1, y0, y1, m, rfl, -, -, hy0, hy1⟩ := open_agg2 hs hone hC hv h
  rw [h0] at hy0
  rw [h1] at hy1
  obtain ⟨a, rfl, -, ha⟩ := int_cell he hy0
  obtain ⟨b, rfl, -, hb⟩ := int_cell he hy1
  exact ⟨⟨a, b⟩, rfl, ha, hb⟩
/-- The records that came in. -/
def Pairs (W : World) (A : Option Addr) (n : Nat) : Prop := ∃ L : List V, FR layV W A n L ∧ n ≤ 9223372036854775807
theorem open_pairs {H : Type} {enc : TypeId × Value → H} {P : Program} {W : World} {T S E : TypeId} {f0 f1 : Field} {v : Value} {d : DataW H} {p : List MemPlace}
    (ht : P.underlying T = some (.slice S)) (hs : P.underlying S = some (.struct #[f0, f1])) (h0 : f0.type = E) (h1 : f1.type = E) (he : P.underlying E = some (.int .i64)) (hone : oneCellFields P #[f0, f1] = true) (hC : P.cellsOf S = 2)
    (h : DataW.Trod enc P W 0 (fun _ => true) true T v d p) (hv : v.cells.toList = [v]) (hlt : ∀ x ∈ p, x.block < W.heap.size) : ∃ A n c, v = .slice A n c ∧ Pairs W A n := by
  obtain ⟨fuel, hf⟩ := h
  rw [hv] at hf
  rcases open_slice ht hf with ⟨hcs, -⟩ | ⟨a, len, cap, m, n, D, Pl, hcs, hb, hl, hm, hmm, hx, hi⟩
  · exact ⟨none, 0, 0, by simpa using hcs, [], FR.nil, Nat.zero_le _⟩
  · simp only [if_true] at hmm
    subst hmm
    have hcell : ∀ i, i < m → ∃ x : V, W.cell? (a.add (i * 2)) = some (.int .i64 x.kind) ∧ W.cell? (a.add (i * 2 + 1)) = some (.int .i64 x.n) := by
      intro i him
      obtain ⟨cs', hc, ht'⟩ := hi i him
      rw [hC] at hc
      obtain ⟨ys, n', hn', hy, hlen, hyl, hff⟩ := DataW.trod_struct hs ht'
      obtain ⟨_, hcl, hat⟩ := World.cells?_some hc
      have hfield : ∀ j f, (#[f0, f1] : Array Field)[j]? = some f → f.type = E → ∃ z : Int, W.cell? (a.add (i * 2 + j)) = some (.int .i64 z) := by
        intro j f hj hfE
        obtain ⟨ho, hk⟩ := hone_of hone j f hj
        have hjl : j < 2 := (Array.getElem?_eq_some_iff.1 hj).1
        have hcj := hat j (by omega)
        have hv' : cs'[j]? = some (cs'[j]'(by omega)) := List.getElem?_eq_getElem (by omega)
        have h2 := hff j f hj
        rw [ho, hk] at h2
        have hone' : (cs'.drop j).take 1 = [cs'[j]'(by omega)] := by
          rw [List.drop_eq_getElem_cons (by omega)]
          rfl
        rw [hone'] at h2
        have hys : ys[j]? = some (ys[j]'(by rw [hyl]; exact hjl)) := List.getElem?_eq_getElem (by rw [hyl]; exact hjl)
        rw [hys, hfE] at h2
        obtain ⟨z, hz, -⟩ := int_cell he h2
        refine ⟨z, ?_⟩
        rw [← Go.Deep.add_add, hcj, hv', hz]
      obtain ⟨z0, hz0⟩ := hfield 0 f0 rfl h0
      obtain ⟨z1, hz1⟩ := hfield 1 f1 rfl h1
      exact ⟨⟨z0, z1⟩, hz0, hz1⟩
    obtain ⟨L, hL, hLc⟩ : ∃ L : List V, L.length = len ∧ ∀ i x, L[i]? = some x → W.cell? (a.add (i * 2)) = some (.int .i64 x.kind) ∧ W.cell? (a.add (i * 2 + 1)) = some (.int .i64 x.n) := by
      have : ∀ k, k ≤ m → ∃ L : List V, L.length = k ∧ ∀ i x, L[i]? = some x → W.cell? (a.add (i * 2)) = some (.int .i64 x.kind) ∧ W.cell? (a.add (i * 2 + 1)) = some (.int .i64 x.n) := by
        intro k
        induction k with
        | zero => exact fun _ => ⟨[], rfl, fun i x h => by simp at h⟩
        | succ k ih =>
          intro hk
          obtain ⟨L, hL, hc⟩ := ih (by omega)
          obtain ⟨x, hx⟩ := hcell k (by omega)
          refine ⟨L ++ [x], by simp [hL], fun i y hy => ?_⟩
          by_cases hik : i < k
          · rw [List.getElem?_append_left (by omega)] at hy
            exact hc i y hy
          · have : i = k := by
              have := (List.getElem?_eq_some_iff.1 hy).1
              simp [hL] at this
              omega
            subst this
            rw [List.getElem?_append_right (by omega)] at hy
            simp [hL] at hy
            subst hy
            exact hx
      exact this len hl
    refine ⟨some a, len, m, by simpa using hcs, L, ⟨hL, ?_⟩, by unfold maxLen at hm; omega⟩
    by_cases hz : len = 0
    · left
      have : L = [] := List.eq_nil_of_length_eq_zero (by omega)
      subst this
      rfl
    · right
      have hsp : a.spot = none := by
        obtain ⟨x, hx0, -⟩ := hcell 0 (by omega)
        simpa [Addr.add] using World.cell?_spot hx0
      obtain ⟨b, off, spot⟩ := a
      simp only at hsp
      subst hsp
      refine ⟨b, off, rfl, ?_, fun j u hj => ?_⟩
      · have := hlt (.cell b off) (by
          have e := congrArg Prod.snd hx
          simp only at e
          rw [e, hC]
          exact List.mem_append_left _ (MemPlace.mem_row.2 ⟨0, by omega, by simp⟩))
        exact this
      · have hjl : j < len * 2 := by
          have := (List.getElem?_eq_some_iff.1 hj).1
          rw [layV.flat_len, hL] at this
          exact this
        have e : j = j / 2 * 2 + j % 2 := by omega
        have hx' : L[j / 2]? = some (L[j / 2]'(by omega)) := List.getElem?_eq_getElem (by omega)
        have h2 := layV.flat_at L (j / 2) (j % 2) _ hx' (show j % 2 < 2 by omega)
        rw [show layV.size = 2 from rfl, ← e, hj] at h2
        obtain ⟨g0, g1⟩ := hLc _ _ hx'
        rw [Addr.add_lit] at g0 g1
        rcases (by omega : j % 2 = 0 ∨ j % 2 = 1) with h3 | h3
        · rw [h3] at h2 e
          rw [show off + j = off + (j / 2) * 2 by omega, g0]
          exact h2.symm
        · rw [h3] at h2 e
          rw [show off + j = off + ((j / 2) * 2 + 1) by omega, g1]
          exact h2.symm
end Go.Proofs.Ytmeacgpebpfpbaa
