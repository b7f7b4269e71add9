/- What a law of chapter 10 is handed, as data. -/
import Derived.Test.YtdedioghljkflaaTyG1
namespace Go.Proofs.Ytdedioghljkflaa
open Go.RowKit Go.Joins Go.ChangeShapes Go.WideShapes Go.Deep
section
variable {H : Type} {enc : TypeId × Value → H} {P : Program} {W : World} {b0 : Nat} {v : Value} {d : DataW H} {p : List MemPlace}
theorem open_recd {t : Ty} {T : TypeId} {fs : Array Field} (ht : tiedB P t T = true) (hs : P.underlying T = some (.struct fs)) (hv : Value.okWide P W .any b0 T v) (h : DataW.Trod enc P W 0 (fun _ => true) true T v d p) (hlt : ∀ x ∈ p, x.block < W.heap.size) :
    ∃ (l : List Value) (dd : Dat), v = .agg ⟨l⟩ ∧ Has t dd ∧ Lies W dd l := by
  obtain ⟨⟨l⟩, rfl, -⟩ := okWide_struct hs hv
  obtain ⟨fuel, hf⟩ := h
  obtain ⟨dd, hT, hL⟩ := open_dat t T _ _ _ ht hf hlt
  exact ⟨l, dd, rfl, hT, hL⟩
theorem open_sld {t : Ty} {T E : TypeId} (ht : tiedB P (.sl t) T = true) (hs : P.underlying T = some (.slice E)) (hv : Value.okWide P W .any b0 T v) (h : DataW.Trod enc P W 0 (fun _ => true) true T v d p) (hlt : ∀ x ∈ p, x.block < W.heap.size) :
    ∃ (L : List Dat) (A : Option Addr) (n c : Nat), v = .slice A n c ∧ Lies W (.l L) [.slice A n c] ∧ (∀ x ∈ L, Has t x) ∧ n ≤ 9223372036854775807 := by
  obtain ⟨A, n, c, rfl⟩ := okWide_slice hs hv
  obtain ⟨fuel, hf⟩ := h
  obtain ⟨dd, hT, hL⟩ := open_dat (.sl t) T _ _ _ ht hf hlt
  rw [Has] at hT
  obtain ⟨L, rfl, hl, hT⟩ := hT
  have hL' : Lies W (.l L) [.slice A n c] := hL
  exact ⟨L, A, n, c, rfl, hL', hT, by rw [← hL'.count]; exact hl⟩
end
theorem tiedQuestionS : tiedB Try.prog (.sl tyQuestion) 39 = true := by kernel_rfl
set_option maxRecDepth 100000 in
theorem openQuestionS {H : Type} {enc : TypeId × Value → H} {W : World} {b0 : Nat} {v : Value} {d : DataW H} {p : List MemPlace} (hv : Value.okWide Try.prog W .any b0 39 v) (h : DataW.Trod enc Try.prog W 0 (fun _ => true) true 39 v d p) (hlt : ∀ x ∈ p, x.block < W.heap.size) :
    ∃ (L : List Dat) (A : Option Addr) (n c : Nat), v = .slice A n c ∧ Lies W (.l L) [.slice A n c] ∧ (∀ x ∈ L, Has tyQuestion x) ∧ n ≤ 9223372036854775807 := open_sld tiedQuestionS Try.underlying39 hv h hlt
set_option maxRecDepth 100000 in
theorem openLink {H : Type} {enc : TypeId × Value → H} {W : World} {b0 : Nat} {v : Value} {d : DataW H} {p : List MemPlace} (hv : Value.okWide Try.prog W .any b0 41 v) (h : DataW.Trod enc Try.prog W 0 (fun _ => true) true 41 v d p) (hlt : ∀ x ∈ p, x.block < W.heap.size) :
    ∃ (f0 : Int) (f1 : Bool) (L2 : List Dat) (A2 : Option Addr) (n2 c2 : Nat) (f3 : Int) (L4 : List Dat) (A4 : Option Addr) (n4 c4 : Nat) (f5 : Int) (L6 : List Dat) (A6 : Option Addr) (n6 c6 : Nat), v = .agg #[.int .i64 f0, .bool f1, .slice A2 n2 c2, .int .i64 f3, .slice A4 n4 c4, .int .i64 f5, .slice A6 n6 c6] ∧ Lies W (.l L2) [.slice A2 n2 c2] ∧ (∀ x ∈ L2, Has tyExport x) ∧ n2 ≤ 9223372036854775807 ∧ Lies W (.l L4) [.slice A4 n4 c4] ∧ (∀ x ∈ L4, Has tyQuestion x) ∧ n4 ≤ 9223372036854775807 ∧ Lies W (.l L6) [.slice A6 n6 c6] ∧ (∀ x ∈ L6, Has tyQuestion x) ∧ n6 ≤ 9223372036854775807 := by
  obtain ⟨l, dd, rfl, hT, hL⟩ := open_recd tiedLink Try.underlying41 hv h hlt
  obtain ⟨f0, f1, L2, A2, n2, c2, f3, L4, A4, n4, c4, f5, L6, A6, n6, c6, rfl, rfl, hl2, ht2, hm2, hl4, ht4, hm4, hl6, ht6, hm6⟩ := invLink hT hL
  exact ⟨f0, f1, L2, A2, n2, c2, f3, L4, A4, n4, c4, f5, L6, A6, n6, c6, rfl, hl2, ht2, hm2, hl4, ht4, hm4, hl6, ht6, hm6⟩
end Go.Proofs.Ytdedioghljkflaa
