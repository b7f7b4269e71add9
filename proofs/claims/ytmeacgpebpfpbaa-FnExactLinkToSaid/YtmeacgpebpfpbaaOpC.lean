/- Of no program: a law's arguments opened as data. -/
import Derived.Test.YtmeacgpebpfpbaaTyE0
namespace Go.Proofs.Ytmeacgpebpfpbaa
open Go.RowKit Go.Joins Go.ChangeShapes Go.WideShapes Go.Deep
section
variable {H : Type} {enc : TypeId × Value → H} {P : Program} {W : World} {b0 : Nat} {v : Value} {d : DataW H} {p : List MemPlace}
theorem open_recd {t : Ty} {T : TypeId} {fs : Array Field} (ht : tiedB P t T = true) (hs : P.underlying T = some (.struct fs)) (hv : Value.okWide P W .any b0 T v) (h : DataW.Trod enc P W 0 (fun _ => true) true T v d p) (hlt : ∀ x ∈ p, x.block < W.heap.size) :
    ∃ (l : List Value) (dd : Dat), v = .agg ⟨l⟩ ∧ Has t dd ∧ Lies W dd l := by
  obtain ⟨⟨l⟩, rfl, -⟩ := okWide_struct hs hv
  obtain ⟨fuel, hf⟩ := h
  obtain ⟨dd, hT, hL⟩ := open_dat t T _ _ _ ht hf hlt
  exact ⟨l, dd, rfl, hT, hL⟩

theorem open_sld {t : Ty} {T E : TypeId} (ht : tiedB P (.sl t) T = true) (hs : P.underlying T = some (.slice E)) (hv : Value.okWide P W .any b0 T v) (h : DataW.Trod enc P W 0 (fun _ => true) true T v d p) (hlt : ∀ x ∈ p, x.block < W.heap.size) :
    ∃ (L : List Dat) (A : Option Addr) (n c : Nat), v = .slice A n c ∧ Lies W (.l L) [.slice A n c] ∧ (∀ x ∈ L, Has t x) ∧ n ≤ 9223372036854775807 := by
  obtain ⟨A, n, c, rfl⟩ := okWide_slice hs hv
  obtain ⟨fuel, hf⟩ := h
  obtain ⟨dd, hT, hL⟩ := open_dat (.sl t) T _ _ _ ht hf hlt
  rw [Has] at hT
  obtain ⟨L, rfl, hl, hT⟩ := hT
  have hL' : Lies W (.l L) [.slice A n c] := hL
  exact ⟨L, A, n, c, rfl, hL', hT, by rw [← hL'.count]; exact hl⟩
end
end Go.Proofs.Ytmeacgpebpfpbaa
