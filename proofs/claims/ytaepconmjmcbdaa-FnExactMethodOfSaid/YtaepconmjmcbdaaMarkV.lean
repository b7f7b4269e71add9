/- The laws' marks of a method by value. -/
import Derived.Test.YtaepconmjmcbdaaMarkS
import Derived.Test.YtaepconmjmcbdaaDatCnt
namespace Go.Proofs.Ytaepconmjmcbdaa
open Go.RowKit
set_option linter.unusedVariables false
set_option maxHeartbeats 2000000 in
theorem markMethod (f0 : ByteArray) (L : List Dat) (A : Option Addr) (n c : Nat) (z : Int) (lo hi : Nat) (w : World) (h : Owns w (.l L) [.slice A n c] (rng lo hi)) (ht : ∀ x ∈ L, Has tyInstr x) (h0 : 0 < z) (h1 : z + cntAll L ≤ 1099511627776) (hn : n ≤ 1099511627776) :
    Calls Try.prog 38 #[.agg #[.string f0, .slice A n c], .int .i64 z] w (MarkedD L A n c z (rng lo hi) w) := by
  have B0 : Hid (Below w.heap.size w (w.alloc (.cells #[.string f0, .slice A n c] 29))) := Lib.hid (by go_grown)
  have HO := Lib.hid (h.below B0.out)
  have H1 := Lib.hid h1
  clear h h1
  go_enter Try.func38, Try.ntmps38
  go_wp2_with fail
  refine (markInstrS L A n c z (rng lo hi) _ HO.out ht h0 H1.out hn).mono ?_
  rintro e w1 ⟨rfl, hO, hT⟩
  have HO1 := Lib.hid hO
  have HT1 := Lib.hid ((Touch.of_below B0.out).trans hT)
  clear hO hT
  go_wp2_with fail
  go_ret
  exact ⟨rfl, HO1.out, HT1.out⟩
set_option maxHeartbeats 2000000 in
theorem heldMethod (f0 : ByteArray) (L : List Dat) (A : Option Addr) (n c : Nat) (z : Int) (w : World) (h : Lies w (.l (mkAll L z)) [.slice A n c]) (ht : ∀ x ∈ L, Has tyInstr x) (h0 : 0 < z) (h1 : z + cntAll L ≤ 1099511627776) (hn : n ≤ 1099511627776) :
    Calls Try.prog 39 #[.agg #[.string f0, .slice A n c], .int .i64 z] w (GivesInt (z + cntAll L) w) := by
  have B0 : Hid (Below w.heap.size w (w.alloc (.cells #[.string f0, .slice A n c] 29))) := Lib.hid (by go_grown)
  have HO := Lib.hid (h.below B0.out)
  have H1 := Lib.hid h1
  clear h h1
  have hz : (0 : Int) ≤ z + cntAll L := by omega
  go_enter Try.func39, Try.ntmps39
  go_wp2_with fail
  refine (heldInstrS L A n c z _ HO.out ht h0 H1.out hn).mono ?_
  rintro e w1 ⟨rfl, hb⟩
  have HB := Lib.hid (B0.out.trans (hb.mono B0.out.size))
  clear hb
  go_wp2_with fail
  go_ret
  exact GivesInt.ret rfl HB.out
end Go.Proofs.Ytaepconmjmcbdaa
