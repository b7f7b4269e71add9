/- Chapter 9, plain: lists of values as data and as pairs; what is alike. -/
import Derived.Test.YtmeacgpebpfpbaaCom
import Derived.Test.YtmeacgpebpfpbaaTyE1
import Derived.Test.YtmeacgpebpfpbaaImplVS
import Derived.Test.YtmeacgpebpfpbaaSpecVS
namespace Go.Proofs.Ytmeacgpebpfpbaa
open Go.RowKit
def vOf : Dat → V
  | .r [.i k, .i n] => ⟨k, n⟩
  | _ => ⟨0, 0⟩
def vs (L : List Dat) : List V := L.map vOf
def dOf (v : V) : Dat := .r [.i v.kind, .i v.n]
theorem val_form {d : Dat} (h : Has tyValue d) : ∃ k n : Int, d = .r [.i k, .i n] := by
  simp only [tyValue, Has, HasAll] at h
  obtain ⟨ds, rfl, d0, r0, rfl, ⟨f0, rfl, -, -⟩, d1, r1, rfl, ⟨f1, rfl, -, -⟩, rfl⟩ := h
  exact ⟨f0, f1, rfl⟩
theorem dOf_vOf {d : Dat} (h : Has tyValue d) : dOf (vOf d) = d := by
  obtain ⟨k, n, rfl⟩ := val_form h
  rfl
theorem vs_len (L : List Dat) : (vs L).length = L.length := List.length_map ..
theorem map_dOf : ∀ {L : List Dat}, (∀ x ∈ L, Has tyValue x) → (vs L).map dOf = L
  | [], _ => rfl
  | d :: L, h => by
    rw [vs, List.map_cons, List.map_cons, dOf_vOf (h d List.mem_cons_self), ← vs, map_dOf (fun x hx => h x (List.mem_cons_of_mem _ hx))]
theorem eqVals_eqD {L M : List Dat} (h : ∀ x ∈ L, Has tyValue x) (h' : ∀ x ∈ M, Has tyValue x) : eqVals (vs L) (vs M) = eqD L M := by
  by_cases e : L = M
  · subst e
    rw [eqVals_same, eqD_yes]
  · rw [eqD_no e]
    exact @decide_eq_false _ (Classical.propDecidable _) (fun x => e (by rw [← map_dOf h, x, map_dOf h']))
theorem LiesAll.vals {w : World} : ∀ {L : List Dat} {xs : List Value}, LiesAll w L xs → (∀ x ∈ L, Has tyValue x) → xs = layV.flat (vs L)
  | [], xs, h, _ => by rw [LiesAll] at h; subst h; rfl
  | d :: L, xs, h, ht => by
    rw [LiesAll] at h
    obtain ⟨c1, c2, rfl, h1, h2⟩ := h
    obtain ⟨f0, f1, rfl, rfl⟩ := invValue (ht d List.mem_cons_self) h1
    rw [LiesAll.vals h2 (fun x hx => ht x (List.mem_cons_of_mem _ hx))]
    rfl
theorem Lies.vals {w : World} {L : List Dat} {A : Option Addr} {n c : Nat} (h : Lies w (.l L) [.slice A n c]) (ht : ∀ x ∈ L, Has tyValue x) : FR layV w A n (vs L) := by
  have hc := h.count
  rw [Lies] at h
  obtain ⟨A', n', c', e, -, h⟩ := h
  simp only [List.cons.injEq, Value.slice.injEq, and_true] at e
  obtain ⟨rfl, rfl, rfl⟩ := e
  refine ⟨by rw [vs_len, hc], ?_⟩
  rcases h with rfl | ⟨b, off, xs, rfl, ⟨hlt, hnc⟩, hx, hcell⟩
  · exact Or.inl rfl
  · rw [← hx.vals ht]
    exact Or.inr ⟨b, off, rfl, hlt, hcell⟩
theorem LiesAll.of_vals {w : World} : ∀ (L : List V), LiesAll w (L.map dOf) (layV.flat L)
  | [] => by rw [List.map_nil, LiesAll]; rfl
  | v :: L => by
    rw [List.map_cons, LiesAll]
    exact ⟨layV.cells v, layV.flat L, rfl, by rw [dOf, Lies]; exact ⟨[.int .i64 v.kind], _, rfl, rfl, [.int .i64 v.n], _, rfl, rfl, rfl⟩, LiesAll.of_vals L⟩
theorem FR.lies {w : World} {A : Option Addr} {n c : Nat} {L : List V} (h : FR layV w A n L) (hc : n ≤ c) : Lies w (.l (L.map dOf)) [.slice A n c] := by
  rw [Lies]
  refine ⟨A, n, c, rfl, by rw [List.length_map]; exact h.1, ?_⟩
  rcases h.2 with h0 | ⟨b, off, rfl, hb, hcell⟩
  · left
    cases L with
    | nil => rfl
    | cons v L => cases h0
  · exact Or.inr ⟨b, off, layV.flat L, rfl, ⟨hb, hc⟩, LiesAll.of_vals L, hcell⟩
section
variable {L M : List Dat} {A B : Option Addr} {n c m k : Nat} {w : World}
theorem specEqVD (h : Lies w (.l L) [.slice A n c]) (h' : Lies w (.l M) [.slice B m k]) (ht : ∀ x ∈ L, Has tyValue x) (ht' : ∀ x ∈ M, Has tyValue x) (hn : n ≤ 1099511627776) :
    Calls Try.prog 157 #[.slice A n c, .slice B m k] w (GivesBool (eqD L M) w) := by
  have := specEqVS A B n m c k (vs L) (vs M) w (h.vals ht) (h'.vals ht') hn
  rwa [eqVals_eqD ht ht'] at this
theorem implEqVD (h : Lies w (.l L) [.slice A n c]) (h' : Lies w (.l M) [.slice B m k]) (ht : ∀ x ∈ L, Has tyValue x) (ht' : ∀ x ∈ M, Has tyValue x) (hn : n ≤ 1099511627776) :
    Calls Try.prog 67 #[.slice A n c, .slice B m k] w (GivesBool (eqD L M) w) := by
  have := implEqVS A B n m c k (vs L) (vs M) w (h.vals ht) (h'.vals ht') hn
  rwa [eqVals_eqD ht ht'] at this
end
end Go.Proofs.Ytmeacgpebpfpbaa
