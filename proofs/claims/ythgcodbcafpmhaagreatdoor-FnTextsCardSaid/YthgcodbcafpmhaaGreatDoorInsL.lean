/- OpName and TargetOf, both sides; a law's record as the program's. -/
import Derived.Test.YthgcodbcafpmhaaGreatDoorIsI
namespace Go.Proofs.YthgcodbcafpmhaaGreatDoor
open Go.RowKit
set_option linter.unusedVariables false
/-- A string comes back. -/
def GivesS (s : ByteArray) (w : World) (e : Ending) (w' : World) : Prop := e = .returned (.string s) ∧ Below w.heap.size w w'
theorem GivesS.ret {s t : ByteArray} {w w' : World} (h : s = t) (hb : Below w.heap.size w w') : GivesS t w (.returned (.string s)) w' := ⟨by rw [h], hb⟩
/-- A record comes back. -/
def GivesI (x : I) (w : World) (e : Ending) (w' : World) : Prop := e = .returned (.agg #[.int .i64 x.op, .int .i64 x.a, .int .i64 x.b, .int .i64 x.c, .int .i64 x.d, .string x.name]) ∧ Below w.heap.size w w'
theorem GivesI.ret {op a b c d : Int} {nm : ByteArray} {w w' : World} (hb : Below w.heap.size w w') : GivesI ⟨op, a, b, c, d, nm⟩ w (.returned (.agg #[.int .i64 op, .int .i64 a, .int .i64 b, .int .i64 c, .int .i64 d, .string nm])) w' := ⟨rfl, hb⟩
set_option maxHeartbeats 1000000 in
theorem toIns (x : I) (w : World) : Calls Tryz.prog 151 #[.agg #[.int .i64 x.op, .int .i64 x.a, .int .i64 x.b, .int .i64 x.c, .int .i64 x.d, .string x.name]] w (GivesI x w) := by
  obtain ⟨op, a, b, c, d, nm⟩ := x
  go_enter Tryz.func151, Tryz.ntmps151
  go_wp2
  refine bodyPost_ret (v := .agg #[.int .i64 op, .int .i64 a, .int .i64 b, .int .i64 c, .int .i64 d, .string nm]) (by simp [results, Tryz.results151, go_sem]) rfl ?_
  exact GivesI.ret (by go_grown)
def leftI (nm : ByteArray) (left : Int) : Int := if left - nm.size < 0 then -1 else left - nm.size
theorem leftI_neg {nm : ByteArray} {left : Int} (h : left - nm.size < 0) : -1 = leftI nm left := (if_pos h).symm
theorem leftI_pos {nm : ByteArray} {left : Int} (h : ¬ left - nm.size < 0) : left - nm.size = leftI nm left := (if_neg h).symm
set_option maxHeartbeats 1000000 in
theorem szIns (x : I) (left : Int) (w : World) (h0 : 0 ≤ left) (h1 : left ≤ 1099511627776) (hs : x.name.size ≤ 9223372036854775807) : Calls Tryz.prog 150 #[.agg #[.int .i64 x.op, .int .i64 x.a, .int .i64 x.b, .int .i64 x.c, .int .i64 x.d, .string x.name], .int .i64 left] w (GivesInt (leftI x.name left) w) := by
  obtain ⟨op, a, b, c, d, nm⟩ := x
  have hs' : nm.size ≤ 9223372036854775807 := hs
  clear hs
  by_cases h : left - nm.size < 0
  · have H := Lib.hid (leftI_neg h)
    go_enter Tryz.func150, Tryz.ntmps150
    go_wp2
    go_ret
    exact GivesInt.ret H.out (by go_grown)
  · have H := Lib.hid (leftI_pos h)
    go_enter Tryz.func150, Tryz.ntmps150
    go_wp2
    go_ret
    exact GivesInt.ret H.out (by go_grown)
/-! ### OpName -/
theorem opName_no {op : Int} (h : ¬ (1 ≤ op ∧ op ≤ 10)) : ⟨#[]⟩ = opName op := by
  unfold opName
  repeat (rw [if_neg (by omega)])
theorem implOp_ (op : Int) (nm : ByteArray) (f g : Nat) (b : Bool) (w : World) (h : ∀ w, Calls Tryz.prog 77 #[.int .i64 op] w (GivesF nm f g b w)) : Calls Tryz.prog 51 #[.int .i64 op] w (GivesS nm w) := by
  have A1 := fieldName
  have H := Lib.hid h
  clear h
  go_enter Tryz.func51, Tryz.ntmps51
  go_wp2_with fail
  refine (H.out _).mono ?_
  rintro e w1 ⟨rfl, hb⟩
  go_wp2_with fail
  go_ret
  exact GivesS.ret rfl hb
theorem implOp (op : Int) (w : World) : Calls Tryz.prog 51 #[.int .i64 op] w (GivesS (opName op) w) := by
  rcases opCases op with rfl | rfl | rfl | rfl | rfl | rfl | rfl | rfl | rfl | rfl | h
  · exact implOp_ 1 _ _ _ _ w form1
  · exact implOp_ 2 _ _ _ _ w form2
  · exact implOp_ 3 _ _ _ _ w form3
  · exact implOp_ 4 _ _ _ _ w form4
  · exact implOp_ 5 _ _ _ _ w form5
  · exact implOp_ 6 _ _ _ _ w form6
  · exact implOp_ 7 _ _ _ _ w form7
  · exact implOp_ 8 _ _ _ _ w form8
  · exact implOp_ 9 _ _ _ _ w form9
  · exact implOp_ 10 _ _ _ _ w form10
  · rw [← opName_no h]
    exact implOp_ op _ _ _ _ w fun w => form0 op w h
set_option maxHeartbeats 2000000 in
theorem specOp (op : Int) (w : World) : Calls Tryz.prog 71 #[.int .i64 op] w (GivesS (opName op) w) := by
  rcases opCases op with rfl | rfl | rfl | rfl | rfl | rfl | rfl | rfl | rfl | rfl | h
  all_goals first
  | (have hr := inR_not h
     have H := Lib.hid (opName_no h)
     clear h
     go_enter Tryz.func71, Tryz.ntmps71
     go_wp2_with fail
     refine (specInR _ _ _ _).mono ?_
     rintro e w' ⟨rfl, rfl⟩
     go_wp2_with fail
     go_ret
     exact GivesS.ret H.out (Below.refl _ _))
  | (go_enter Tryz.func71, Tryz.ntmps71
     go_wp2_with fail
     refine (specInR _ _ _ _).mono ?_
     rintro e w' ⟨rfl, rfl⟩
     rw [inR_is (by omega) (by omega)]
     go_wp2_with fail
     go_ret
     exact GivesS.ret rfl (by go_grown))
/-! ### TargetOf -/
theorem target_no {op a b c d : Int} {nm : ByteArray} (h : ¬ (1 ≤ op ∧ op ≤ 7)) : -1 = targetOf ⟨op, a, b, c, d, nm⟩ := (if_neg h).symm
theorem target_yes {op a b c d : Int} {nm : ByteArray} (h : 1 ≤ op ∧ op ≤ 7) : a = targetOf ⟨op, a, b, c, d, nm⟩ := (if_pos h).symm
end Go.Proofs.YthgcodbcafpmhaaGreatDoor
