/- What a law is handed: slices of integers that came in. -/
import Derived.Test.YthgcodbcafpmhaaDoorSlI
import Derived.Test.YthgcodbcafpmhaaDoorVar
namespace Go.Proofs.YthgcodbcafpmhaaDoor
open Go.RowKit
theorem wf_bounds {a : Int} (h : (Lit.int .i64 a).wf = true) : -9223372036854775808 ≤ a ∧ a ≤ 9223372036854775807 := by
  have e1 : IntKind.i64.min = -9223372036854775808 := rfl
  have e2 : IntKind.i64.max = 9223372036854775807 := rfl
  simp [Lit.wf, e1, e2] at h
  omega
/-- The bytes that came in, as numbers. -/
theorem Code.rz {W : World} {A : Option Addr} {n : Nat} (h : Code W A n) : ∃ zs : List Int, Rz .u8 W A n zs ∧ Byt zs := by
  obtain ⟨zs, h1, -, h3, h4⟩ := h
  refine ⟨zs.map fun (z : Nat) => (z : Int), ⟨by simpa using h1, ?_⟩, fun z hz => ?_⟩
  · rw [List.map_map]
    exact h4
  · obtain ⟨y, hy, rfl⟩ := List.mem_map.1 hz
    have := h3 y hy
    omega
/-- The integers that came in. -/
def Nums (W : World) (A : Option Addr) (n : Nat) : Prop := ∃ zs : List Int, Rz .i64 W A n zs ∧ ∀ z ∈ zs, -9223372036854775808 ≤ z ∧ z ≤ 9223372036854775807
theorem open_nums {H : Type} {enc : TypeId × Value → H} {W : World} {T E : TypeId} {v : Value} {d : DataW H} {p : List MemPlace} (ht : Tryd.prog.underlying T = some (.slice E)) (he : Tryd.prog.underlying E = some (.int .i64)) (hce : Tryd.prog.cellsOf E = 1)
    (h : DataW.Trod enc Tryd.prog W 0 (fun _ => true) true T v d p) (hv : v.cells.toList = [v]) (hlt : ∀ x ∈ p, x.block < W.heap.size) : ∃ A n c, v = .slice A n c ∧ Nums W A n := by
  obtain ⟨fuel, hf⟩ := h
  rw [hv] at hf
  rcases ChangeShapes.open_ints ht he hce hf with ⟨hcs, -⟩ | ⟨a, len, cap, zs, hcs, -, hl, hm, hz, hx, hcell, hwf⟩
  · exact ⟨none, 0, 0, by simpa using hcs, [], Rz.nil, fun z hz => by cases hz⟩
  · simp only [if_true] at hz
    refine ⟨some a, len, cap, by simpa using hcs, zs.take len, ⟨by simp; omega, ?_⟩, ?_⟩
    · by_cases h0 : len = 0
      · left; subst h0; simp
      · right
        have hsp : a.spot = none := by simpa [Addr.add] using World.cell?_spot (hcell 0 (by omega))
        obtain ⟨b, off, spot⟩ := a
        simp only at hsp
        subst hsp
        refine ⟨b, off, rfl, ?_, fun j u hj => ?_⟩
        · have := hlt (.cell b off) (by
            have e := congrArg Prod.snd hx
            simp only at e
            rw [e]
            exact MemPlace.mem_row.2 ⟨0, by omega, by simp⟩)
          exact this
        · have hjl : j < len := by
            have := (List.getElem?_eq_some_iff.1 hj).1
            simp at this
            omega
          have hc := hcell j (by omega)
          rw [Addr.add_lit] at hc
          rw [hc]
          have hjz : j < zs.length := by omega
          simp [hjl, List.getElem?_eq_getElem hjz] at hj
          subst hj
          simp [List.getD, List.getElem?_eq_getElem hjz]
    · intro z hzm
      have := hwf z (List.mem_of_mem_take hzm)
      have e1 : IntKind.i64.min = -9223372036854775808 := rfl
      have e2 : IntKind.i64.max = 9223372036854775807 := rfl
      simp [Lit.wf, e1, e2] at this
      omega
end Go.Proofs.YthgcodbcafpmhaaDoor
