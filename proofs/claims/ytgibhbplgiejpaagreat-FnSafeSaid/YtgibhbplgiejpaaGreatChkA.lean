/- Chapter 8: Writes, both sides; what an instruction sets. -/
import Derived.Test.YtgibhbplgiejpaaGreatChkV
import Derived.Test.YtgibhbplgiejpaaGreatInsL
import Derived.Test.YtgibhbplgiejpaaGreatScrI
namespace Go.Proofs.YtgibhbplgiejpaaGreat
open Go.RowKit
set_option linter.unusedVariables false
set_option linter.unusedSimpArgs false
theorem implTargetD (d : Dat) (f0 f1 f2 f3 f4 : Int) (f5 : ByteArray) (w : World) (hd : d = .r [.i f0, .i f1, .i f2, .i f3, .i f4, .s f5]) : Calls Tryz.prog 92 #[.agg #[.int .i64 f0, .int .i64 f1, .int .i64 f2, .int .i64 f3, .int .i64 f4, .string f5]] w (GivesInt (targetOf (insOf d)) w) := by
  subst hd
  exact implTarget ⟨f0, f1, f2, f3, f4, f5⟩ w
theorem specTargetD (d : Dat) (f0 f1 f2 f3 f4 : Int) (f5 : ByteArray) (w : World) (hd : d = .r [.i f0, .i f1, .i f2, .i f3, .i f4, .s f5]) : Calls Tryz.prog 33 #[.agg #[.int .i64 f0, .int .i64 f1, .int .i64 f2, .int .i64 f3, .int .i64 f4, .string f5]] w (GivesInt (targetOf (insOf d)) w) := by
  subst hd
  exact specTarget ⟨f0, f1, f2, f3, f4, f5⟩ w
def setsD (r : Int) (d : Dat) : Bool := setsR (insOf d) r
theorem setsR_neg {x : I} {r : Int} (h : ¬ 0 ≤ r) : setsR x r = false := by simp [setsR, h]
theorem setsR_eq {x : I} {r t : Int} (h : 0 ≤ r) (ht : targetOf x = t) : setsR x r = (t == r) := by
  rw [setsR, decide_eq_true h, Bool.true_and, ht, Bool.eq_iff_iff]
  simp
set_option maxHeartbeats 1000000 in
theorem implSets (d : Dat) (f0 f1 f2 f3 f4 : Int) (f5 : ByteArray) (r : Int) (w : World) (hd : d = .r [.i f0, .i f1, .i f2, .i f3, .i f4, .s f5]) : Calls Tryz.prog 57 #[.agg #[.int .i64 f0, .int .i64 f1, .int .i64 f2, .int .i64 f3, .int .i64 f4, .string f5], .int .i64 r] w (GivesBool (setsR (insOf d) r) w) := by
  have HD := Lib.hid hd
  clear hd
  have B0 : Hid (Below w.heap.size w (w.alloc (.cells #[.int .i64 f0, .int .i64 f1, .int .i64 f2, .int .i64 f3, .int .i64 f4, .string f5] 32))) := Lib.hid ((Below.refl _ _).alloc (Nat.le_refl _) _)
  by_cases h0 : 0 ≤ r
  · obtain ⟨t, ht⟩ : ∃ t, targetOf (insOf d) = t := ⟨_, rfl⟩
    have HE := Lib.hid (setsR_eq h0 ht)
    have HTT := Lib.hid ht
    clear ht
    go_enter Tryz.func57, Tryz.ntmps57
    go_wp2_with fail
    refine (implTargetD d f0 f1 f2 f3 f4 f5 _ HD.out).mono ?_
    rintro e w2 ⟨rfl, hb⟩
    rw [HTT.out]
    have HB := Lib.hid (B0.out.trans (hb.mono B0.out.size))
    clear hb
    go_wp2_with fail
    go_ret
    exact GivesBool.of HE.out.symm HB.out
  · have HE := Lib.hid (setsR_neg (x := insOf d) h0)
    go_enter Tryz.func57, Tryz.ntmps57
    go_wp2_with fail
    go_ret
    exact GivesBool.of HE.out.symm B0.out
def writesD (L : List Dat) (r : Int) : Bool := L.any (setsD r)
theorem writes_yes {L : List Dat} {r : Int} {i : Nat} {d : Dat} (hd : L[i]? = some d) (h : setsD r d = true) : true = writesD L r := (List.any_eq_true.2 ⟨d, List.mem_of_getElem? hd, h⟩).symm
theorem writes_no {L : List Dat} {r : Int} (h : ∀ (j : Nat) (e : Dat), L[j]? = some e → setsD r e = false) : false = writesD L r := by
  refine (List.any_eq_false.2 fun x hx => ?_).symm
  obtain ⟨j, hj⟩ := List.mem_iff_getElem?.1 hx
  rw [h j x hj]; simp
theorem sets_t {d : Dat} {r t : Int} (ht : targetOf (insOf d) = t) (h : t = r) (h0 : 0 ≤ r) : setsD r d = true := by rw [setsD, setsR_eq h0 ht, h]; simp
theorem sets_f {d : Dat} {r t : Int} (ht : targetOf (insOf d) = t) (h : ¬ t = r) : setsD r d = false := by
  by_cases h0 : 0 ≤ r
  · rw [setsD, setsR_eq h0 ht]; simpa using h
  · exact setsR_neg h0
end Go.Proofs.YtgibhbplgiejpaaGreat
