/- Chapter 12's marks, by program: records by value. A message that is owned, its list. -/
import Derived.Test.YtmeacgpebpfpbaaGreatMarkV4
import Derived.Deep.RegionHeld3
import Derived.LoopTactic
import Derived.Lib.Hide
import Derived.Deep.QuietTactic
import Derived.BigQuiet
import Derived.Deep.RegionWith
import Derived.Handy
import Derived.Deep.RegionLaw
import Derived.Deep.Cut
section
namespace Go.Proofs.YtmeacgpebpfpbaaGreat
open Go.RowKit
set_option linter.unusedVariables false
set_option linter.unusedSimpArgs false
def MarkedRMessage (f0 : Int) (f1 : Int) (f2 : Int) (f3 : Int) (f4 : ByteArray) (L5 : List Dat) (A5 : Option Addr) (n5 c5 : Nat) (f6_0 : Int) (f6_1 : Int) (f7 : Int) (f8_0 : Int) (f8_1 : Int) (f8_2 : Int) (z : Int) (P : Nat → Prop) (w : World) (e : Ending) (w' : World) : Prop := e = .returned (.int .i64 (z + cntAll L5)) ∧ Owns w' (.r [.i f0, .i f1, .i f2, .i f3, .s f4, .l (mkAll L5 (z)), .r [.i f6_0, .i f6_1], .i f7, .r [.i f8_0, .i f8_1, .i f8_2]]) [.int .i64 f0, .int .i64 f1, .int .i64 f2, .int .i64 f3, .string f4, .slice A5 n5 c5, .int .i64 f6_0, .int .i64 f6_1, .int .i64 f7, .int .i64 f8_0, .int .i64 f8_1, .int .i64 f8_2] P ∧ Touch P w w'
set_option maxHeartbeats 4000000 in
theorem markRMessage (f0 : Int) (f1 : Int) (f2 : Int) (f3 : Int) (f4 : ByteArray) (L5 : List Dat) (A5 : Option Addr) (n5 c5 : Nat) (f6_0 : Int) (f6_1 : Int) (f7 : Int) (f8_0 : Int) (f8_1 : Int) (f8_2 : Int) (z : Int) (P : Nat → Prop) (w : World) (h : Owns w (.r [.i f0, .i f1, .i f2, .i f3, .s f4, .l L5, .r [.i f6_0, .i f6_1], .i f7, .r [.i f8_0, .i f8_1, .i f8_2]]) [.int .i64 f0, .int .i64 f1, .int .i64 f2, .int .i64 f3, .string f4, .slice A5 n5 c5, .int .i64 f6_0, .int .i64 f6_1, .int .i64 f7, .int .i64 f8_0, .int .i64 f8_1, .int .i64 f8_2] P) (ht5 : ∀ x ∈ L5, Has tyWire x) (hn5 : n5 ≤ 1099511627776) (h0 : 0 < z) (h1 : z + cntAll L5 ≤ 1099511627776) (hP : ∀ b, P b → b < w.heap.size) :
    Calls Tryz.prog 13 #[.agg #[.int .i64 f0, .int .i64 f1, .int .i64 f2, .int .i64 f3, .string f4, .slice A5 n5 c5, .int .i64 f6_0, .int .i64 f6_1, .int .i64 f7, .int .i64 f8_0, .int .i64 f8_1, .int .i64 f8_2], .int .i64 z] w (MarkedRMessage f0 f1 f2 f3 f4 L5 A5 n5 c5 f6_0 f6_1 f7 f8_0 f8_1 f8_2 z P w) := by
  have B0 : Hid (Below w.heap.size w (w.alloc (.cells #[.int .i64 f0, .int .i64 f1, .int .i64 f2, .int .i64 f3, .string f4, .slice A5 n5 c5, .int .i64 f6_0, .int .i64 f6_1, .int .i64 f7, .int .i64 f8_0, .int .i64 f8_1, .int .i64 f8_2] 49))) := Lib.hid ((Below.refl _ _).alloc (Nat.le_refl _) _)
  obtain ⟨P5, h5, hp5⟩ := partMessage h
  have HPP := Lib.hid hP
  have HTo : Hid (Touch P w (w.alloc (.cells #[.int .i64 f0, .int .i64 f1, .int .i64 f2, .int .i64 f3, .string f4, .slice A5 n5 c5, .int .i64 f6_0, .int .i64 f6_1, .int .i64 f7, .int .i64 f8_0, .int .i64 f8_1, .int .i64 f8_2] 49))) := Lib.hid (Touch.of_below B0.out)
  have Y : Hid (Box w.heap.size [.int .i64 f0, .int .i64 f1, .int .i64 f2, .int .i64 f3, .string f4, .slice A5 n5 c5, .int .i64 f6_0, .int .i64 f6_1, .int .i64 f7, .int .i64 f8_0, .int .i64 f8_1, .int .i64 f8_2] (w.alloc (.cells #[.int .i64 f0, .int .i64 f1, .int .i64 f2, .int .i64 f3, .string f4, .slice A5 n5 c5, .int .i64 f6_0, .int .i64 f6_1, .int .i64 f7, .int .i64 f8_0, .int .i64 f8_1, .int .i64 f8_2] 49))) := Lib.hid (Box.new w #[.int .i64 f0, .int .i64 f1, .int .i64 f2, .int .i64 f3, .string f4, .slice A5 n5 c5, .int .i64 f6_0, .int .i64 f6_1, .int .i64 f7, .int .i64 f8_0, .int .i64 f8_1, .int .i64 f8_2] 49)
  have H5 := Lib.hid (h5.below B0.out)
  have HT5 := Lib.hid ht5
  have HP5 := Lib.hid hp5
  clear h hP B0 h5 ht5 hp5
  go_enter Tryz.func13, Tryz.ntmps13
  go_wp2_with fail
  refine (markWireS L5 A5 n5 c5 (z) P5 _ H5.out HT5.out (by omega) (by omega) hn5).mono ?_
  rintro e w1 ⟨rfl, hO, hT⟩
  replace H5 := Lib.hid hO
  replace Y : Hid (Box w.heap.size [.int .i64 f0, .int .i64 f1, .int .i64 f2, .int .i64 f3, .string f4, .slice A5 n5 c5, .int .i64 f6_0, .int .i64 f6_1, .int .i64 f7, .int .i64 f8_0, .int .i64 f8_1, .int .i64 f8_2] w1) := Lib.hid (Y.out.touch hT (fun hb => Nat.lt_irrefl _ (HPP.out _ (HP5.out _ hb))))
  replace HTo : Hid (Touch P w w1) := Lib.hid (HTo.out.trans (hT.mono (fun b hb => HP5.out b hb)))
  clear hO hT
  go_wp2_with fail
  go_ret
  refine ⟨rfl, (ownPMessage (f0 := f0) (f1 := f1) (f2 := f2) (f3 := f3) (f4 := f4) (L5 := mkAll L5 (z)) (f6_0 := f6_0) (f6_1 := f6_1) (f7 := f7) (f8_0 := f8_0) (f8_1 := f8_1) (f8_2 := f8_2) H5.out ).mono (fun b hb => ?_), HTo.out⟩
  rcases hb with hb | hb
  · exact HP5.out b hb
  · exact hb.elim
end Go.Proofs.YtmeacgpebpfpbaaGreat
end
section
namespace Go.Proofs.YtmeacgpebpfpbaaGreat
open Go.RowKit
set_option linter.unusedVariables false
set_option linter.unusedSimpArgs false
theorem liesMessage5 {w : World} {P : Nat → Prop} {f0 : Int} {f1 : Int} {f2 : Int} {f3 : Int} {f4 : ByteArray} {L5 : List Dat} {A5 : Option Addr} {n5 c5 : Nat} {f6_0 : Int} {f6_1 : Int} {f7 : Int} {f8_0 : Int} {f8_1 : Int} {f8_2 : Int} (h : Owns w (.r [.i f0, .i f1, .i f2, .i f3, .s f4, .l L5, .r [.i f6_0, .i f6_1], .i f7, .r [.i f8_0, .i f8_1, .i f8_2]]) [.int .i64 f0, .int .i64 f1, .int .i64 f2, .int .i64 f3, .string f4, .slice A5 n5 c5, .int .i64 f6_0, .int .i64 f6_1, .int .i64 f7, .int .i64 f8_0, .int .i64 f8_1, .int .i64 f8_2] P) : Lies w (.l L5) [.slice A5 n5 c5] := by
  obtain ⟨P5, h5, -⟩ := partMessage h
  exact h5.lies
end Go.Proofs.YtmeacgpebpfpbaaGreat
end
