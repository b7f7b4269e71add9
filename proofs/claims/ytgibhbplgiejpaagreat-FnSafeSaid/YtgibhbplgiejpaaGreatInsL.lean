/- OpName and TargetOf, both sides; a law's record as the program's. -/
import Derived.Test.YtgibhbplgiejpaaGreatIsI
namespace Go.Proofs.YtgibhbplgiejpaaGreat
open Go.RowKit
set_option linter.unusedVariables false
/-- A string comes back. -/
def GivesS (s : ByteArray) (w : World) (e : Ending) (w' : World) : Prop := e = .returned (.string s) ∧ Below w.heap.size w w'
theorem GivesS.ret {s t : ByteArray} {w w' : World} (h : s = t) (hb : Below w.heap.size w w') : GivesS t w (.returned (.string s)) w' := ⟨by rw [h], hb⟩
/-- A record comes back. -/
def GivesI (x : I) (w : World) (e : Ending) (w' : World) : Prop := e = .returned (.agg #[.int .i64 x.op, .int .i64 x.a, .int .i64 x.b, .int .i64 x.c, .int .i64 x.d, .string x.name]) ∧ Below w.heap.size w w'
theorem GivesI.ret {op a b c d : Int} {nm : ByteArray} {w w' : World} (hb : Below w.heap.size w w') : GivesI ⟨op, a, b, c, d, nm⟩ w (.returned (.agg #[.int .i64 op, .int .i64 a, .int .i64 b, .int .i64 c, .int .i64 d, .string nm])) w' := ⟨rfl, hb⟩
set_option maxHeartbeats 1000000 in
theorem toIns (x : I) (w : World) : Calls Tryz.prog 128 #[.agg #[.int .i64 x.op, .int .i64 x.a, .int .i64 x.b, .int .i64 x.c, .int .i64 x.d, .string x.name]] w (GivesI x w) := by
  obtain ⟨op, a, b, c, d, nm⟩ := x
  go_enter Tryz.func128, Tryz.ntmps128
  go_wp2
  refine bodyPost_ret (v := .agg #[.int .i64 op, .int .i64 a, .int .i64 b, .int .i64 c, .int .i64 d, .string nm]) (by simp [results, Tryz.results128, go_sem]) rfl ?_
  exact GivesI.ret (by go_grown)
def leftI (nm : ByteArray) (left : Int) : Int := if left - nm.size < 0 then -1 else left - nm.size
theorem leftI_neg {nm : ByteArray} {left : Int} (h : left - nm.size < 0) : -1 = leftI nm left := (if_pos h).symm
theorem leftI_pos {nm : ByteArray} {left : Int} (h : ¬ left - nm.size < 0) : left - nm.size = leftI nm left := (if_neg h).symm
set_option maxHeartbeats 1000000 in
theorem szIns (x : I) (left : Int) (w : World) (h0 : 0 ≤ left) (h1 : left ≤ 1099511627776) (hs : x.name.size ≤ 9223372036854775807) : Calls Tryz.prog 127 #[.agg #[.int .i64 x.op, .int .i64 x.a, .int .i64 x.b, .int .i64 x.c, .int .i64 x.d, .string x.name], .int .i64 left] w (GivesInt (leftI x.name left) w) := by
  obtain ⟨op, a, b, c, d, nm⟩ := x
  have hs' : nm.size ≤ 9223372036854775807 := hs
  clear hs
  by_cases h : left - nm.size < 0
  · have H := Lib.hid (leftI_neg h)
    go_enter Tryz.func127, Tryz.ntmps127
    go_wp2
    go_ret
    exact GivesInt.ret H.out (by go_grown)
  · have H := Lib.hid (leftI_pos h)
    go_enter Tryz.func127, Tryz.ntmps127
    go_wp2
    go_ret
    exact GivesInt.ret H.out (by go_grown)
/-! ### OpName -/
theorem opName_no {op : Int} (h : ¬ (1 ≤ op ∧ op ≤ 10)) : ⟨#[]⟩ = opName op := by
  unfold opName
  repeat (rw [if_neg (by omega)])
set_option maxHeartbeats 2000000 in
theorem specOp (op : Int) (w : World) : Calls Tryz.prog 130 #[.int .i64 op] w (GivesS (opName op) w) := by
  rcases opCases op with rfl | rfl | rfl | rfl | rfl | rfl | rfl | rfl | rfl | rfl | h
  all_goals first
  | (have hr := inR_not h
     have H := Lib.hid (opName_no h)
     clear h
     go_enter Tryz.func130, Tryz.ntmps130
     go_wp2_with fail
     refine (specInR _ _ _ _).mono ?_
     rintro e w' ⟨rfl, rfl⟩
     go_wp2_with fail
     go_ret
     exact GivesS.ret H.out (Below.refl _ _))
  | (go_enter Tryz.func130, Tryz.ntmps130
     go_wp2_with fail
     refine (specInR _ _ _ _).mono ?_
     rintro e w' ⟨rfl, rfl⟩
     rw [inR_is (by omega) (by omega)]
     go_wp2_with fail
     go_ret
     exact GivesS.ret rfl (by go_grown))
/-! ### TargetOf -/
theorem target_no {op a b c d : Int} {nm : ByteArray} (h : ¬ (1 ≤ op ∧ op ≤ 7)) : -1 = targetOf ⟨op, a, b, c, d, nm⟩ := (if_neg h).symm
theorem target_yes {op a b c d : Int} {nm : ByteArray} (h : 1 ≤ op ∧ op ≤ 7) : a = targetOf ⟨op, a, b, c, d, nm⟩ := (if_pos h).symm
theorem implTarget_ (op a b c d : Int) (n : ByteArray) (f g : Nat) (bb : Bool) (nm : ByteArray) (w : World) (h : ∀ w, Calls Tryz.prog 36 #[.int .i64 op] w (GivesF n f g bb w)) (ht : (if bb = true then a else -1) = targetOf ⟨op, a, b, c, d, nm⟩) :
    Calls Tryz.prog 92 #[.agg #[.int .i64 op, .int .i64 a, .int .i64 b, .int .i64 c, .int .i64 d, .string nm]] w (GivesInt (targetOf ⟨op, a, b, c, d, nm⟩) w) := by
  have A1 := fieldWrites
  have H := Lib.hid h
  have X0 := Lib.hid (Boxed.mk_ w op a b c d nm 32)
  clear h
  cases bb with
  | true =>
    have HT : Hid (a = targetOf ⟨op, a, b, c, d, nm⟩) := Lib.hid ht
    clear ht
    go_enter Tryz.func92, Tryz.ntmps92
    go_wp2_with fail
    refine (H.out _).mono ?_
    rintro e w1 ⟨rfl, hb⟩
    have X1 := Lib.hid (X0.out.below hb)
    have c1 := X1.out.six.2.1
    clear hb
    go_wp2_with fail
    go_ret
    exact GivesInt.ret HT.out X1.out.2
  | false =>
    have HT : Hid (-1 = targetOf ⟨op, a, b, c, d, nm⟩) := Lib.hid ht
    clear ht
    go_enter Tryz.func92, Tryz.ntmps92
    go_wp2_with fail
    refine (H.out _).mono ?_
    rintro e w1 ⟨rfl, hb⟩
    have X1 := Lib.hid (X0.out.below hb)
    clear hb
    go_wp2_with fail
    go_ret
    exact GivesInt.ret HT.out X1.out.2
theorem implTarget (x : I) (w : World) : Calls Tryz.prog 92 #[.agg #[.int .i64 x.op, .int .i64 x.a, .int .i64 x.b, .int .i64 x.c, .int .i64 x.d, .string x.name]] w (GivesInt (targetOf x) w) := by
  obtain ⟨op, a, b, c, d, nm⟩ := x
  rcases opCases op with rfl | rfl | rfl | rfl | rfl | rfl | rfl | rfl | rfl | rfl | h
  · exact implTarget_ 1 a b c d _ _ _ _ nm w form1 rfl
  · exact implTarget_ 2 a b c d _ _ _ _ nm w form2 rfl
  · exact implTarget_ 3 a b c d _ _ _ _ nm w form3 rfl
  · exact implTarget_ 4 a b c d _ _ _ _ nm w form4 rfl
  · exact implTarget_ 5 a b c d _ _ _ _ nm w form5 rfl
  · exact implTarget_ 6 a b c d _ _ _ _ nm w form6 rfl
  · exact implTarget_ 7 a b c d _ _ _ _ nm w form7 rfl
  · exact implTarget_ 8 a b c d _ _ _ _ nm w form8 rfl
  · exact implTarget_ 9 a b c d _ _ _ _ nm w form9 rfl
  · exact implTarget_ 10 a b c d _ _ _ _ nm w form10 rfl
  · exact implTarget_ op a b c d _ _ _ _ nm w (fun w => form0 op w h) (target_no (by omega))
theorem specTarget (x : I) (w : World) : Calls Tryz.prog 33 #[.agg #[.int .i64 x.op, .int .i64 x.a, .int .i64 x.b, .int .i64 x.c, .int .i64 x.d, .string x.name]] w (GivesInt (targetOf x) w) := by
  obtain ⟨op, a, b, c, d, nm⟩ := x
  by_cases h : 1 ≤ op ∧ op ≤ 7
  · have H := Lib.hid (target_yes (a := a) (b := b) (c := c) (d := d) (nm := nm) h)
    have hr : inR op 1 7 = true := inR_is h.1 h.2
    clear h
    go_enter Tryz.func33, Tryz.ntmps33
    go_wp2_with fail
    refine (specInR _ _ _ _).mono ?_
    rintro e w' ⟨rfl, rfl⟩
    go_wp2_with fail
    go_ret
    exact GivesInt.ret H.out (by go_grown)
  · have H := Lib.hid (target_no (a := a) (b := b) (c := c) (d := d) (nm := nm) h)
    have hr : inR op 1 7 = false := inR_not h
    clear h
    go_enter Tryz.func33, Tryz.ntmps33
    go_wp2_with fail
    refine (specInR _ _ _ _).mono ?_
    rintro e w' ⟨rfl, rfl⟩
    go_wp2_with fail
    go_ret
    exact GivesInt.ret H.out (by go_grown)
end Go.Proofs.YtgibhbplgiejpaaGreat
