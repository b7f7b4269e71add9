/- Chapter 12's marks, by program: records by value. An entity that is owned, its lists. -/
import Derived.Test.YtmeacgpebpfpbaaMarkV2
import Derived.Deep.RegionHeld3
import Derived.LoopTactic
import Derived.Lib.Hide
import Derived.Deep.QuietTactic
import Derived.BigQuiet
import Derived.Deep.RegionWith
import Derived.Handy
import Derived.Deep.RegionLaw
import Derived.Deep.Cut
section
namespace Go.Proofs.Ytmeacgpebpfpbaa
open Go.RowKit
set_option linter.unusedVariables false
set_option linter.unusedSimpArgs false
def MarkedREntity (f0 : Int) (f1 : Int) (L2 : List Dat) (A2 : Option Addr) (n2 c2 : Nat) (f3 : Int) (f4_0 : Int) (f4_1 : Int) (L5 : List Dat) (A5 : Option Addr) (n5 c5 : Nat) (L6 : List Dat) (A6 : Option Addr) (n6 c6 : Nat) (f7 : Int) (f8 : Int) (f9 : Int) (f10 : Int) (z : Int) (P : Nat → Prop) (w : World) (e : Ending) (w' : World) : Prop := e = .returned (.int .i64 (z + cntAll L2 + cntAll L5 + cntAll L6)) ∧ Owns w' (.r [.i f0, .i f1, .l (mkAll L2 (z)), .i f3, .r [.i f4_0, .i f4_1], .l (mkAll L5 (z + cntAll L2)), .l (mkAll L6 (z + cntAll L2 + cntAll L5)), .i f7, .i f8, .i f9, .i f10]) [.int .i64 f0, .int .i64 f1, .slice A2 n2 c2, .int .i64 f3, .int .i64 f4_0, .int .i64 f4_1, .slice A5 n5 c5, .slice A6 n6 c6, .int .i64 f7, .int .i64 f8, .int .i64 f9, .int .i64 f10] P ∧ Touch P w w'
set_option maxHeartbeats 4000000 in
theorem markREntity (f0 : Int) (f1 : Int) (L2 : List Dat) (A2 : Option Addr) (n2 c2 : Nat) (f3 : Int) (f4_0 : Int) (f4_1 : Int) (L5 : List Dat) (A5 : Option Addr) (n5 c5 : Nat) (L6 : List Dat) (A6 : Option Addr) (n6 c6 : Nat) (f7 : Int) (f8 : Int) (f9 : Int) (f10 : Int) (z : Int) (P : Nat → Prop) (w : World) (h : Owns w (.r [.i f0, .i f1, .l L2, .i f3, .r [.i f4_0, .i f4_1], .l L5, .l L6, .i f7, .i f8, .i f9, .i f10]) [.int .i64 f0, .int .i64 f1, .slice A2 n2 c2, .int .i64 f3, .int .i64 f4_0, .int .i64 f4_1, .slice A5 n5 c5, .slice A6 n6 c6, .int .i64 f7, .int .i64 f8, .int .i64 f9, .int .i64 f10] P) (ht2 : ∀ x ∈ L2, Has tyValue x) (hn2 : n2 ≤ 1099511627776) (ht5 : ∀ x ∈ L5, Has tySent x) (hn5 : n5 ≤ 1099511627776) (ht6 : ∀ x ∈ L6, Has tyAsker x) (hn6 : n6 ≤ 1099511627776) (h0 : 0 < z) (h1 : z + cntAll L2 + cntAll L5 + cntAll L6 ≤ 1099511627776) (hP : ∀ b, P b → b < w.heap.size) :
    Calls Try.prog 39 #[.agg #[.int .i64 f0, .int .i64 f1, .slice A2 n2 c2, .int .i64 f3, .int .i64 f4_0, .int .i64 f4_1, .slice A5 n5 c5, .slice A6 n6 c6, .int .i64 f7, .int .i64 f8, .int .i64 f9, .int .i64 f10], .int .i64 z] w (MarkedREntity f0 f1 L2 A2 n2 c2 f3 f4_0 f4_1 L5 A5 n5 c5 L6 A6 n6 c6 f7 f8 f9 f10 z P w) := by
  have B0 : Hid (Below w.heap.size w (w.alloc (.cells #[.int .i64 f0, .int .i64 f1, .slice A2 n2 c2, .int .i64 f3, .int .i64 f4_0, .int .i64 f4_1, .slice A5 n5 c5, .slice A6 n6 c6, .int .i64 f7, .int .i64 f8, .int .i64 f9, .int .i64 f10] 38))) := Lib.hid ((Below.refl _ _).alloc (Nat.le_refl _) _)
  obtain ⟨P2, P5, P6, h2, h5, h6, hp2, hp5, hp6, hd2x5, hd2x6, hd5x6⟩ := partEntity h
  have HPP := Lib.hid hP
  have HTo : Hid (Touch P w (w.alloc (.cells #[.int .i64 f0, .int .i64 f1, .slice A2 n2 c2, .int .i64 f3, .int .i64 f4_0, .int .i64 f4_1, .slice A5 n5 c5, .slice A6 n6 c6, .int .i64 f7, .int .i64 f8, .int .i64 f9, .int .i64 f10] 38))) := Lib.hid (Touch.of_below B0.out)
  have Y : Hid (Box w.heap.size [.int .i64 f0, .int .i64 f1, .slice A2 n2 c2, .int .i64 f3, .int .i64 f4_0, .int .i64 f4_1, .slice A5 n5 c5, .slice A6 n6 c6, .int .i64 f7, .int .i64 f8, .int .i64 f9, .int .i64 f10] (w.alloc (.cells #[.int .i64 f0, .int .i64 f1, .slice A2 n2 c2, .int .i64 f3, .int .i64 f4_0, .int .i64 f4_1, .slice A5 n5 c5, .slice A6 n6 c6, .int .i64 f7, .int .i64 f8, .int .i64 f9, .int .i64 f10] 38))) := Lib.hid (Box.new w #[.int .i64 f0, .int .i64 f1, .slice A2 n2 c2, .int .i64 f3, .int .i64 f4_0, .int .i64 f4_1, .slice A5 n5 c5, .slice A6 n6 c6, .int .i64 f7, .int .i64 f8, .int .i64 f9, .int .i64 f10] 38)
  have H2 := Lib.hid (h2.below B0.out)
  have HT2 := Lib.hid ht2
  have HP2 := Lib.hid hp2
  have H5 := Lib.hid (h5.below B0.out)
  have HT5 := Lib.hid ht5
  have HP5 := Lib.hid hp5
  have H6 := Lib.hid (h6.below B0.out)
  have HT6 := Lib.hid ht6
  have HP6 := Lib.hid hp6
  have HD2x5 := Lib.hid hd2x5
  have HD2x6 := Lib.hid hd2x6
  have HD5x6 := Lib.hid hd5x6
  clear h hP B0 h2 ht2 hp2 h5 ht5 hp5 h6 ht6 hp6 hd2x5 hd2x6 hd5x6
  go_enter Try.func39, Try.ntmps39
  go_wp2_with fail
  refine (markValueS L2 A2 n2 c2 (z) P2 _ H2.out HT2.out (by omega) (by omega) hn2).mono ?_
  rintro e w1 ⟨rfl, hO, hT⟩
  replace H5 := Lib.hid (H5.out.touch hT (fun b h1 h2 => HD2x5.out b h2 h1))
  replace H6 := Lib.hid (H6.out.touch hT (fun b h1 h2 => HD2x6.out b h2 h1))
  replace H2 := Lib.hid hO
  replace Y : Hid (Box w.heap.size [.int .i64 f0, .int .i64 f1, .slice A2 n2 c2, .int .i64 f3, .int .i64 f4_0, .int .i64 f4_1, .slice A5 n5 c5, .slice A6 n6 c6, .int .i64 f7, .int .i64 f8, .int .i64 f9, .int .i64 f10] w1) := Lib.hid (Y.out.touch hT (fun hb => Nat.lt_irrefl _ (HPP.out _ (HP2.out _ hb))))
  replace HTo : Hid (Touch P w w1) := Lib.hid (HTo.out.trans (hT.mono (fun b hb => HP2.out b hb)))
  clear hO hT
  have y6 := Y.out.2 6 (.slice A5 n5 c5) rfl
  go_wp2_with fail
  refine (markSentS L5 A5 n5 c5 (z + cntAll L2) P5 _ H5.out HT5.out (by omega) (by omega) hn5).mono ?_
  rintro e w2 ⟨rfl, hO, hT⟩
  clear y6
  replace H2 := Lib.hid (H2.out.touch hT (fun b h1 h2 => HD2x5.out b h1 h2))
  replace H6 := Lib.hid (H6.out.touch hT (fun b h1 h2 => HD5x6.out b h2 h1))
  replace H5 := Lib.hid hO
  replace Y : Hid (Box w.heap.size [.int .i64 f0, .int .i64 f1, .slice A2 n2 c2, .int .i64 f3, .int .i64 f4_0, .int .i64 f4_1, .slice A5 n5 c5, .slice A6 n6 c6, .int .i64 f7, .int .i64 f8, .int .i64 f9, .int .i64 f10] w2) := Lib.hid (Y.out.touch hT (fun hb => Nat.lt_irrefl _ (HPP.out _ (HP5.out _ hb))))
  replace HTo : Hid (Touch P w w2) := Lib.hid (HTo.out.trans (hT.mono (fun b hb => HP5.out b hb)))
  clear hO hT
  have y7 := Y.out.2 7 (.slice A6 n6 c6) rfl
  go_wp2_with fail
  refine (markAskerS L6 A6 n6 c6 (z + cntAll L2 + cntAll L5) P6 _ H6.out HT6.out (by omega) (by omega) hn6).mono ?_
  rintro e w3 ⟨rfl, hO, hT⟩
  clear y7
  replace H2 := Lib.hid (H2.out.touch hT (fun b h1 h2 => HD2x6.out b h1 h2))
  replace H5 := Lib.hid (H5.out.touch hT (fun b h1 h2 => HD5x6.out b h1 h2))
  replace H6 := Lib.hid hO
  replace Y : Hid (Box w.heap.size [.int .i64 f0, .int .i64 f1, .slice A2 n2 c2, .int .i64 f3, .int .i64 f4_0, .int .i64 f4_1, .slice A5 n5 c5, .slice A6 n6 c6, .int .i64 f7, .int .i64 f8, .int .i64 f9, .int .i64 f10] w3) := Lib.hid (Y.out.touch hT (fun hb => Nat.lt_irrefl _ (HPP.out _ (HP6.out _ hb))))
  replace HTo : Hid (Touch P w w3) := Lib.hid (HTo.out.trans (hT.mono (fun b hb => HP6.out b hb)))
  clear hO hT
  go_wp2_with fail
  go_ret
  refine ⟨rfl, (ownPEntity (f0 := f0) (f1 := f1) (L2 := mkAll L2 (z)) (f3 := f3) (f4_0 := f4_0) (f4_1 := f4_1) (L5 := mkAll L5 (z + cntAll L2)) (L6 := mkAll L6 (z + cntAll L2 + cntAll L5)) (f7 := f7) (f8 := f8) (f9 := f9) (f10 := f10) H2.out H5.out H6.out HD2x5.out HD2x6.out HD5x6.out).mono (fun b hb => ?_), HTo.out⟩
  rcases hb with hb | hb | hb | hb
  · exact HP2.out b hb
  · exact HP5.out b hb
  · exact HP6.out b hb
  · exact hb.elim
end Go.Proofs.Ytmeacgpebpfpbaa
end
section
namespace Go.Proofs.Ytmeacgpebpfpbaa
open Go.RowKit
set_option linter.unusedVariables false
set_option linter.unusedSimpArgs false
theorem liesEntity2 {w : World} {P : Nat → Prop} {f0 : Int} {f1 : Int} {L2 : List Dat} {A2 : Option Addr} {n2 c2 : Nat} {f3 : Int} {f4_0 : Int} {f4_1 : Int} {L5 : List Dat} {A5 : Option Addr} {n5 c5 : Nat} {L6 : List Dat} {A6 : Option Addr} {n6 c6 : Nat} {f7 : Int} {f8 : Int} {f9 : Int} {f10 : Int} (h : Owns w (.r [.i f0, .i f1, .l L2, .i f3, .r [.i f4_0, .i f4_1], .l L5, .l L6, .i f7, .i f8, .i f9, .i f10]) [.int .i64 f0, .int .i64 f1, .slice A2 n2 c2, .int .i64 f3, .int .i64 f4_0, .int .i64 f4_1, .slice A5 n5 c5, .slice A6 n6 c6, .int .i64 f7, .int .i64 f8, .int .i64 f9, .int .i64 f10] P) : Lies w (.l L2) [.slice A2 n2 c2] := by
  obtain ⟨P2, P5, P6, h2, -, -, -⟩ := partEntity h
  exact h2.lies
theorem liesEntity5 {w : World} {P : Nat → Prop} {f0 : Int} {f1 : Int} {L2 : List Dat} {A2 : Option Addr} {n2 c2 : Nat} {f3 : Int} {f4_0 : Int} {f4_1 : Int} {L5 : List Dat} {A5 : Option Addr} {n5 c5 : Nat} {L6 : List Dat} {A6 : Option Addr} {n6 c6 : Nat} {f7 : Int} {f8 : Int} {f9 : Int} {f10 : Int} (h : Owns w (.r [.i f0, .i f1, .l L2, .i f3, .r [.i f4_0, .i f4_1], .l L5, .l L6, .i f7, .i f8, .i f9, .i f10]) [.int .i64 f0, .int .i64 f1, .slice A2 n2 c2, .int .i64 f3, .int .i64 f4_0, .int .i64 f4_1, .slice A5 n5 c5, .slice A6 n6 c6, .int .i64 f7, .int .i64 f8, .int .i64 f9, .int .i64 f10] P) : Lies w (.l L5) [.slice A5 n5 c5] := by
  obtain ⟨P2, P5, P6, -, h5, -, -⟩ := partEntity h
  exact h5.lies
theorem liesEntity6 {w : World} {P : Nat → Prop} {f0 : Int} {f1 : Int} {L2 : List Dat} {A2 : Option Addr} {n2 c2 : Nat} {f3 : Int} {f4_0 : Int} {f4_1 : Int} {L5 : List Dat} {A5 : Option Addr} {n5 c5 : Nat} {L6 : List Dat} {A6 : Option Addr} {n6 c6 : Nat} {f7 : Int} {f8 : Int} {f9 : Int} {f10 : Int} (h : Owns w (.r [.i f0, .i f1, .l L2, .i f3, .r [.i f4_0, .i f4_1], .l L5, .l L6, .i f7, .i f8, .i f9, .i f10]) [.int .i64 f0, .int .i64 f1, .slice A2 n2 c2, .int .i64 f3, .int .i64 f4_0, .int .i64 f4_1, .slice A5 n5 c5, .slice A6 n6 c6, .int .i64 f7, .int .i64 f8, .int .i64 f9, .int .i64 f10] P) : Lies w (.l L6) [.slice A6 n6 c6] := by
  obtain ⟨P2, P5, P6, -, -, h6, -⟩ := partEntity h
  exact h6.lies
end Go.Proofs.Ytmeacgpebpfpbaa
end
