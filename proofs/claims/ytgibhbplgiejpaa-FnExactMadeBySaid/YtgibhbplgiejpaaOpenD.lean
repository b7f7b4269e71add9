/- What a law is handed, as data. -/
import Derived.Test.YtgibhbplgiejpaaTyA
namespace Go.Proofs.Ytgibhbplgiejpaa
open Go.RowKit Go.Joins Go.ChangeShapes Go.WideShapes Go.Deep
section
variable {H : Type} {enc : TypeId × Value → H} {P : Program} {W : World} {b0 : Nat} {v : Value} {d : DataW H} {p : List MemPlace}
theorem open_recd {t : Ty} {T : TypeId} {fs : Array Field} (ht : tiedB P t T = true) (hs : P.underlying T = some (.struct fs)) (hv : Value.okWide P W .any b0 T v) (h : DataW.Trod enc P W 0 (fun _ => true) true T v d p) (hlt : ∀ x ∈ p, x.block < W.heap.size) :
    ∃ (l : List Value) (dd : Dat), v = .agg ⟨l⟩ ∧ Has t dd ∧ Lies W dd l := by
  obtain ⟨⟨l⟩, rfl, -⟩ := okWide_struct hs hv
  obtain ⟨fuel, hf⟩ := h
  obtain ⟨dd, hT, hL⟩ := open_dat t T _ _ _ ht hf hlt
  exact ⟨l, dd, rfl, hT, hL⟩
theorem open_sld {t : Ty} {T E : TypeId} (ht : tiedB P (.sl t) T = true) (hs : P.underlying T = some (.slice E)) (hv : Value.okWide P W .any b0 T v) (h : DataW.Trod enc P W 0 (fun _ => true) true T v d p) (hlt : ∀ x ∈ p, x.block < W.heap.size) :
    ∃ (L : List Dat) (A : Option Addr) (n c : Nat), v = .slice A n c ∧ Lies W (.l L) [.slice A n c] ∧ (∀ x ∈ L, Has t x) ∧ n ≤ 9223372036854775807 := by
  obtain ⟨A, n, c, rfl⟩ := okWide_slice hs hv
  obtain ⟨fuel, hf⟩ := h
  obtain ⟨dd, hT, hL⟩ := open_dat (.sl t) T _ _ _ ht hf hlt
  rw [Has] at hT
  obtain ⟨L, rfl, hl, hT⟩ := hT
  have hL' : Lies W (.l L) [.slice A n c] := hL
  exact ⟨L, A, n, c, rfl, hL', hT, by rw [← hL'.count]; exact hl⟩
end
set_option maxRecDepth 100000 in
theorem openInstr {H : Type} {enc : TypeId × Value → H} {W : World} {b0 : Nat} {v : Value} {d : DataW H} {p : List MemPlace} (hv : Value.okWide Try.prog W .any b0 85 v) (h : DataW.Trod enc Try.prog W 0 (fun _ => true) true 85 v d p) (hlt : ∀ x ∈ p, x.block < W.heap.size) :
    ∃ (f0 : Int) (f1 : Int) (f2 : Int) (f3 : Int) (f4 : Int) (f5 : ByteArray), v = .agg #[.int .i64 f0, .int .i64 f1, .int .i64 f2, .int .i64 f3, .int .i64 f4, .string f5] ∧ f5.size ≤ 9223372036854775807 := by
  obtain ⟨l, dd, rfl, hT, hL⟩ := open_recd tiedInstr Try.underlying85 hv h hlt
  obtain ⟨f0, f1, f2, f3, f4, f5, rfl, rfl, hf5⟩ := invInstr hT hL
  exact ⟨f0, f1, f2, f3, f4, f5, rfl, hf5⟩
theorem tiedInstrS : tiedB Try.prog (.sl tyInstr) 22 = true := by kernel_rfl
set_option maxRecDepth 100000 in
theorem openInstrS {H : Type} {enc : TypeId × Value → H} {W : World} {b0 : Nat} {v : Value} {d : DataW H} {p : List MemPlace} (hv : Value.okWide Try.prog W .any b0 22 v) (h : DataW.Trod enc Try.prog W 0 (fun _ => true) true 22 v d p) (hlt : ∀ x ∈ p, x.block < W.heap.size) :
    ∃ (L : List Dat) (A : Option Addr) (n c : Nat), v = .slice A n c ∧ Lies W (.l L) [.slice A n c] ∧ (∀ x ∈ L, Has tyInstr x) ∧ n ≤ 9223372036854775807 := open_sld tiedInstrS Try.underlying22 hv h hlt
set_option maxRecDepth 100000 in
theorem openMethod {H : Type} {enc : TypeId × Value → H} {W : World} {b0 : Nat} {v : Value} {d : DataW H} {p : List MemPlace} (hv : Value.okWide Try.prog W .any b0 24 v) (h : DataW.Trod enc Try.prog W 0 (fun _ => true) true 24 v d p) (hlt : ∀ x ∈ p, x.block < W.heap.size) :
    ∃ (f0 : ByteArray) (L1 : List Dat) (A1 : Option Addr) (n1 c1 : Nat), v = .agg #[.string f0, .slice A1 n1 c1] ∧ f0.size ≤ 9223372036854775807 ∧ Lies W (.l L1) [.slice A1 n1 c1] ∧ (∀ x ∈ L1, Has tyInstr x) ∧ n1 ≤ 9223372036854775807 := by
  obtain ⟨l, dd, rfl, hT, hL⟩ := open_recd tiedMethod Try.underlying24 hv h hlt
  obtain ⟨f0, L1, A1, n1, c1, rfl, rfl, hf0, hl1, ht1, hm1⟩ := invMethod hT hL
  exact ⟨f0, L1, A1, n1, c1, rfl, hf0, hl1, ht1, hm1⟩
theorem tiedMethodS : tiedB Try.prog (.sl tyMethod) 36 = true := by kernel_rfl
set_option maxRecDepth 100000 in
theorem openMethodS {H : Type} {enc : TypeId × Value → H} {W : World} {b0 : Nat} {v : Value} {d : DataW H} {p : List MemPlace} (hv : Value.okWide Try.prog W .any b0 36 v) (h : DataW.Trod enc Try.prog W 0 (fun _ => true) true 36 v d p) (hlt : ∀ x ∈ p, x.block < W.heap.size) :
    ∃ (L : List Dat) (A : Option Addr) (n c : Nat), v = .slice A n c ∧ Lies W (.l L) [.slice A n c] ∧ (∀ x ∈ L, Has tyMethod x) ∧ n ≤ 9223372036854775807 := open_sld tiedMethodS Try.underlying36 hv h hlt
set_option maxRecDepth 100000 in
theorem openScript {H : Type} {enc : TypeId × Value → H} {W : World} {b0 : Nat} {v : Value} {d : DataW H} {p : List MemPlace} (hv : Value.okWide Try.prog W .any b0 38 v) (h : DataW.Trod enc Try.prog W 0 (fun _ => true) true 38 v d p) (hlt : ∀ x ∈ p, x.block < W.heap.size) :
    ∃ (f0 : ByteArray) (L1 : List Dat) (A1 : Option Addr) (n1 c1 : Nat), v = .agg #[.string f0, .slice A1 n1 c1] ∧ f0.size ≤ 9223372036854775807 ∧ Lies W (.l L1) [.slice A1 n1 c1] ∧ (∀ x ∈ L1, Has tyMethod x) ∧ n1 ≤ 9223372036854775807 := by
  obtain ⟨l, dd, rfl, hT, hL⟩ := open_recd tiedScript Try.underlying38 hv h hlt
  obtain ⟨f0, L1, A1, n1, c1, rfl, rfl, hf0, hl1, ht1, hm1⟩ := invScript hT hL
  exact ⟨f0, L1, A1, n1, c1, rfl, hf0, hl1, ht1, hm1⟩
theorem tiedScriptS : tiedB Try.prog (.sl tyScript) 51 = true := by kernel_rfl
set_option maxRecDepth 100000 in
theorem openScriptS {H : Type} {enc : TypeId × Value → H} {W : World} {b0 : Nat} {v : Value} {d : DataW H} {p : List MemPlace} (hv : Value.okWide Try.prog W .any b0 51 v) (h : DataW.Trod enc Try.prog W 0 (fun _ => true) true 51 v d p) (hlt : ∀ x ∈ p, x.block < W.heap.size) :
    ∃ (L : List Dat) (A : Option Addr) (n c : Nat), v = .slice A n c ∧ Lies W (.l L) [.slice A n c] ∧ (∀ x ∈ L, Has tyScript x) ∧ n ≤ 9223372036854775807 := open_sld tiedScriptS Try.underlying51 hv h hlt
end Go.Proofs.Ytgibhbplgiejpaa
