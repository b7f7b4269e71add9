/- What a law is handed: a record of one-cell fields, by value; an instruction. -/
import Derived.Test.YthgcodbcafpmhaaDoorIns
import Derived.Test.YthgcodbcafpmhaaDoorOpen
import Derived.Lib.SmallJoins
import Derived.Deep.Slices
import Derived.Deep.Fields
import Derived.ChangeSame
namespace Go.Proofs.YthgcodbcafpmhaaDoor
open Go.RowKit Go.Joins Go.ChangeShapes Go.WideShapes Go.Deep
section
variable {H : Type} {enc : TypeId × Value → H} {P : Program} {W : World} {r : Reach} {b0 base : Nat} {spare : Nat → Bool} {held : Bool}
/-- A record by value, and each field's reading. -/
theorem open_rec {T : TypeId} {fs : Array Field} {v : Value} {d : DataW H} {p : List MemPlace} (hs : P.underlying T = some (.struct fs)) (hone : oneCellFields P fs = true) (hC : P.cellsOf T = fs.size)
    (hv : Value.okWide P W r b0 T v) (h : DataW.Trod enc P W base spare held T v d p) :
    ∃ cs : Array Value, v = .agg cs ∧ cs.size = fs.size ∧ ∀ (j : Nat) (f : Field) (c : Value), fs[j]? = some f → cs[j]? = some c → ∃ y n, DataW.trod enc P W base spare held n f.type [c] = some y := by
  obtain ⟨cs, rfl, hsz⟩ := okWide_struct hs hv
  obtain ⟨fuel, hf⟩ := h
  obtain ⟨xs, n, -, -, -, hlen, hg⟩ := DataW.trod_struct hs hf
  refine ⟨cs, rfl, hsz.trans hC, fun j f c hj hc => ?_⟩
  obtain ⟨ho, hk⟩ := hone_of hone j f hj
  have h1 := hg j f hj
  rw [ho, hk] at h1
  have hjc : j < cs.size := (Array.getElem?_eq_some_iff.1 hc).1
  have hjf : j < fs.size := (Array.getElem?_eq_some_iff.1 hj).1
  have e : ((Value.agg cs).cells.toList.drop j).take 1 = [c] := by
    show (cs.toList.drop j).take 1 = [c]
    rw [List.drop_eq_getElem_cons (by simpa using hjc)]
    have : cs.toList[j]'(by simpa using hjc) = c := by
      rw [Array.getElem_toList]
      exact (Array.getElem?_eq_some_iff.1 hc).2
    simp [this]
  rw [e] at h1
  exact ⟨xs[j]'(by omega), n, h1.trans (List.getElem?_eq_getElem (by omega))⟩
theorem int_cell {E : TypeId} {n : Nat} {c : Value} {y : DataW H × List MemPlace}
    (he : P.underlying E = some (.int .i64)) (h : DataW.trod enc P W base spare held n E [c] = some y) : ∃ a : Int, c = .int .i64 a ∧ y.2 = [] ∧ (-9223372036854775808 ≤ a ∧ a ≤ 9223372036854775807) := by
  obtain ⟨a, e0, rfl, wa⟩ := DataW.trod_int he h
  simp at e0
  exact ⟨a, e0, rfl, wf_bounds wa⟩
theorem str_cell {E : TypeId} {n : Nat} {c : Value} {y : DataW H × List MemPlace}
    (he : P.underlying E = some .string) (h : DataW.trod enc P W base spare held n E [c] = some y) : ∃ s : ByteArray, c = .string s ∧ y.2 = [] ∧ s.size ≤ 9223372036854775807 := by
  obtain ⟨s, e0, rfl, hs⟩ := DataW.trod_string he h
  simp at e0
  exact ⟨s, e0, rfl, by unfold maxLen at hs; omega⟩
theorem open_instr {T E S : TypeId} {f0 f1 f2 f3 f4 f5 : Field} {v : Value} {d : DataW H} {p : List MemPlace} (hs : P.underlying T = some (.struct #[f0, f1, f2, f3, f4, f5]))
    (h0 : f0.type = E) (h1 : f1.type = E) (h2 : f2.type = E) (h3 : f3.type = E) (h4 : f4.type = E) (h5 : f5.type = S) (he : P.underlying E = some (.int .i64)) (hS : P.underlying S = some .string)
    (hone : oneCellFields P #[f0, f1, f2, f3, f4, f5] = true) (hC : P.cellsOf T = 6) (hv : Value.okWide P W r b0 T v) (h : DataW.Trod enc P W base spare held T v d p) :
    ∃ x : I, v = .agg #[.int .i64 x.op, .int .i64 x.a, .int .i64 x.b, .int .i64 x.c, .int .i64 x.d, .string x.name] ∧ x.name.size ≤ 9223372036854775807 := by
  obtain ⟨cs, rfl, hsz, hf⟩ := open_rec hs hone hC hv h
  obtain ⟨l⟩ := cs
  match l, hsz with
  | [c0, c1, c2, c3, c4, c5], _ =>
    have k0 := hf 0 f0 c0 rfl rfl
    have k1 := hf 1 f1 c1 rfl rfl
    have k2 := hf 2 f2 c2 rfl rfl
    have k3 := hf 3 f3 c3 rfl rfl
    have k4 := hf 4 f4 c4 rfl rfl
    have k5 := hf 5 f5 c5 rfl rfl
    rw [h0] at k0
    rw [h1] at k1
    rw [h2] at k2
    rw [h3] at k3
    rw [h4] at k4
    rw [h5] at k5
    obtain ⟨y0, n0, t0⟩ := k0
    obtain ⟨y1, n1, t1⟩ := k1
    obtain ⟨y2, n2, t2⟩ := k2
    obtain ⟨y3, n3, t3⟩ := k3
    obtain ⟨y4, n4, t4⟩ := k4
    obtain ⟨y5, n5, t5⟩ := k5
    obtain ⟨z0, rfl, -⟩ := int_cell he t0
    obtain ⟨z1, rfl, -⟩ := int_cell he t1
    obtain ⟨z2, rfl, -⟩ := int_cell he t2
    obtain ⟨z3, rfl, -⟩ := int_cell he t3
    obtain ⟨z4, rfl, -⟩ := int_cell he t4
    obtain ⟨s5, rfl, -, hl⟩ := str_cell hS t5
    exact ⟨⟨z0, z1, z2, z3, z4, s5⟩, rfl, hl⟩
end
end Go.Proofs.YthgcodbcafpmhaaDoor
