/- What a law of chapter 9 is handed, as data. -/
import Derived.Test.YtfgijebgnkikpaaTyE1
namespace Go.Proofs.Ytfgijebgnkikpaa
open Go.RowKit Go.Joins Go.ChangeShapes Go.WideShapes Go.Deep
section
variable {H : Type} {enc : TypeId × Value → H} {P : Program} {W : World} {b0 : Nat} {v : Value} {d : DataW H} {p : List MemPlace}
theorem open_recd {t : Ty} {T : TypeId} {fs : Array Field} (ht : tiedB P t T = true) (hs : P.underlying T = some (.struct fs)) (hv : Value.okWide P W .any b0 T v) (h : DataW.Trod enc P W 0 (fun _ => true) true T v d p) (hlt : ∀ x ∈ p, x.block < W.heap.size) :
    ∃ (l : List Value) (dd : Dat), v = .agg ⟨l⟩ ∧ Has t dd ∧ Lies W dd l := by
  obtain ⟨⟨l⟩, rfl, -⟩ := okWide_struct hs hv
  obtain ⟨fuel, hf⟩ := h
  obtain ⟨dd, hT, hL⟩ := open_dat t T _ _ _ ht hf hlt
  exact ⟨l, dd, rfl, hT, hL⟩
theorem open_sld {t : Ty} {T E : TypeId} (ht : tiedB P (.sl t) T = true) (hs : P.underlying T = some (.slice E)) (hv : Value.okWide P W .any b0 T v) (h : DataW.Trod enc P W 0 (fun _ => true) true T v d p) (hlt : ∀ x ∈ p, x.block < W.heap.size) :
    ∃ (L : List Dat) (A : Option Addr) (n c : Nat), v = .slice A n c ∧ Lies W (.l L) [.slice A n c] ∧ (∀ x ∈ L, Has t x) ∧ n ≤ 9223372036854775807 := by
  obtain ⟨A, n, c, rfl⟩ := okWide_slice hs hv
  obtain ⟨fuel, hf⟩ := h
  obtain ⟨dd, hT, hL⟩ := open_dat (.sl t) T _ _ _ ht hf hlt
  rw [Has] at hT
  obtain ⟨L, rfl, hl, hT⟩ := hT
  have hL' : Lies W (.l L) [.slice A n c] := hL
  exact ⟨L, A, n, c, rfl, hL', hT, by rw [← hL'.count]; exact hl⟩
end
theorem tiedValueS : tiedB Try.prog (.sl tyValue) 44 = true := by kernel_rfl
set_option maxRecDepth 100000 in
theorem openValueS {H : Type} {enc : TypeId × Value → H} {W : World} {b0 : Nat} {v : Value} {d : DataW H} {p : List MemPlace} (hv : Value.okWide Try.prog W .any b0 44 v) (h : DataW.Trod enc Try.prog W 0 (fun _ => true) true 44 v d p) (hlt : ∀ x ∈ p, x.block < W.heap.size) :
    ∃ (L : List Dat) (A : Option Addr) (n c : Nat), v = .slice A n c ∧ Lies W (.l L) [.slice A n c] ∧ (∀ x ∈ L, Has tyValue x) ∧ n ≤ 9223372036854775807 := open_sld tiedValueS Try.underlying44 hv h hlt
theorem tiedSentS : tiedB Try.prog (.sl tySent) 55 = true := by kernel_rfl
set_option maxRecDepth 100000 in
theorem openSentS {H : Type} {enc : TypeId × Value → H} {W : World} {b0 : Nat} {v : Value} {d : DataW H} {p : List MemPlace} (hv : Value.okWide Try.prog W .any b0 55 v) (h : DataW.Trod enc Try.prog W 0 (fun _ => true) true 55 v d p) (hlt : ∀ x ∈ p, x.block < W.heap.size) :
    ∃ (L : List Dat) (A : Option Addr) (n c : Nat), v = .slice A n c ∧ Lies W (.l L) [.slice A n c] ∧ (∀ x ∈ L, Has tySent x) ∧ n ≤ 9223372036854775807 := open_sld tiedSentS Try.underlying55 hv h hlt
set_option maxRecDepth 100000 in
theorem openEntity {H : Type} {enc : TypeId × Value → H} {W : World} {b0 : Nat} {v : Value} {d : DataW H} {p : List MemPlace} (hv : Value.okWide Try.prog W .any b0 58 v) (h : DataW.Trod enc Try.prog W 0 (fun _ => true) true 58 v d p) (hlt : ∀ x ∈ p, x.block < W.heap.size) :
    ∃ (f0 : Int) (f1 : Int) (L2 : List Dat) (A2 : Option Addr) (n2 c2 : Nat) (f3 : Int) (f4_0 : Int) (f4_1 : Int) (L5 : List Dat) (A5 : Option Addr) (n5 c5 : Nat) (L6 : List Dat) (A6 : Option Addr) (n6 c6 : Nat) (f7 : Int) (f8 : Int) (f9 : Int) (f10 : Int), v = .agg #[.int .i64 f0, .int .i64 f1, .slice A2 n2 c2, .int .i64 f3, .int .i64 f4_0, .int .i64 f4_1, .slice A5 n5 c5, .slice A6 n6 c6, .int .i64 f7, .int .i64 f8, .int .i64 f9, .int .i64 f10] ∧ Lies W (.l L2) [.slice A2 n2 c2] ∧ (∀ x ∈ L2, Has tyValue x) ∧ n2 ≤ 9223372036854775807 ∧ Lies W (.l L5) [.slice A5 n5 c5] ∧ (∀ x ∈ L5, Has tySent x) ∧ n5 ≤ 9223372036854775807 ∧ Lies W (.l L6) [.slice A6 n6 c6] ∧ (∀ x ∈ L6, Has tyAsker x) ∧ n6 ≤ 9223372036854775807 := by
  obtain ⟨l, dd, rfl, hT, hL⟩ := open_recd tiedEntity Try.underlying58 hv h hlt
  obtain ⟨f0, f1, L2, A2, n2, c2, f3, f4_0, f4_1, L5, A5, n5, c5, L6, A6, n6, c6, f7, f8, f9, f10, rfl, rfl, hl2, ht2, hm2, hl5, ht5, hm5, hl6, ht6, hm6⟩ := invEntity hT hL
  exact ⟨f0, f1, L2, A2, n2, c2, f3, f4_0, f4_1, L5, A5, n5, c5, L6, A6, n6, c6, f7, f8, f9, f10, rfl, hl2, ht2, hm2, hl5, ht5, hm5, hl6, ht6, hm6⟩
end Go.Proofs.Ytfgijebgnkikpaa
