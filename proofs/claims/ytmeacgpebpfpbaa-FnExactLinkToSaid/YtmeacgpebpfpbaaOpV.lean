/- What a law of chapter 12 is handed, as data. -/
import Derived.Test.YtmeacgpebpfpbaaOpC
import Derived.Test.YtmeacgpebpfpbaaTyV0
namespace Go.Proofs.Ytmeacgpebpfpbaa
open Go.RowKit Go.Joins Go.ChangeShapes Go.WideShapes Go.Deep
set_option maxRecDepth 100000 in
theorem openVat {H : Type} {enc : TypeId × Value → H} {W : World} {b0 : Nat} {v : Value} {d : DataW H} {p : List MemPlace} (hv : Value.okWide Try.prog W .any b0 60 v) (h : DataW.Trod enc Try.prog W 0 (fun _ => true) true 60 v d p) (hlt : ∀ x ∈ p, x.block < W.heap.size) :
    ∃ (f0 : Int) (L1 : List Dat) (A1 : Option Addr) (n1 c1 : Nat) (L2 : List Dat) (A2 : Option Addr) (n2 c2 : Nat) (L3 : List Dat) (A3 : Option Addr) (n3 c3 : Nat) (L4 : List Dat) (A4 : Option Addr) (n4 c4 : Nat), v = .agg #[.int .i64 f0, .slice A1 n1 c1, .slice A2 n2 c2, .slice A3 n3 c3, .slice A4 n4 c4] ∧ Lies W (.l L1) [.slice A1 n1 c1] ∧ (∀ x ∈ L1, Has tyEntity x) ∧ n1 ≤ 9223372036854775807 ∧ Lies W (.l L2) [.slice A2 n2 c2] ∧ (∀ x ∈ L2, Has tySent x) ∧ n2 ≤ 9223372036854775807 ∧ Lies W (.l L3) [.slice A3 n3 c3] ∧ (∀ x ∈ L3, Has tyLink x) ∧ n3 ≤ 9223372036854775807 ∧ Lies W (.l L4) [.slice A4 n4 c4] ∧ (∀ x ∈ L4, Has tyOutgoing x) ∧ n4 ≤ 9223372036854775807 := by
  obtain ⟨l, dd, rfl, hT, hL⟩ := open_recd tiedVat Try.underlying60 hv h hlt
  obtain ⟨f0, L1, A1, n1, c1, L2, A2, n2, c2, L3, A3, n3, c3, L4, A4, n4, c4, rfl, rfl, hl1, ht1, hm1, hl2, ht2, hm2, hl3, ht3, hm3, hl4, ht4, hm4⟩ := invVat hT hL
  exact ⟨f0, L1, A1, n1, c1, L2, A2, n2, c2, L3, A3, n3, c3, L4, A4, n4, c4, rfl, hl1, ht1, hm1, hl2, ht2, hm2, hl3, ht3, hm3, hl4, ht4, hm4⟩
end Go.Proofs.Ytmeacgpebpfpbaa
