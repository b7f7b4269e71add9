/- The program's IsInstr. -/
import Derived.Test.YtgibhbplgiejpaaGreatFits
import Derived.Deep.RegionHeld3
namespace Go.Proofs.YtgibhbplgiejpaaGreat
open Go.RowKit
set_option linter.unusedVariables false
def Boxed (w : World) (op a b c d : Int) (nm : ByteArray) (w' : World) : Prop := Box w.heap.size [.int .i64 op, .int .i64 a, .int .i64 b, .int .i64 c, .int .i64 d, .string nm] w' ∧ Below w.heap.size w w'
theorem Boxed.mk_ (w : World) (op a b c d : Int) (nm : ByteArray) (T : TypeId) : Boxed w op a b c d nm (w.alloc (.cells #[.int .i64 op, .int .i64 a, .int .i64 b, .int .i64 c, .int .i64 d, .string nm] T)) :=
  ⟨Box.new w #[.int .i64 op, .int .i64 a, .int .i64 b, .int .i64 c, .int .i64 d, .string nm] T, (Below.refl _ _).alloc (Nat.le_refl _) _⟩
theorem Boxed.six {w w' : World} {op a b c d : Int} {nm : ByteArray} (h : Boxed w op a b c d nm w') : w'.cell? ⟨w.heap.size, 0, none⟩ = some (.int .i64 op) ∧ w'.cell? ⟨w.heap.size, 1, none⟩ = some (.int .i64 a) ∧ w'.cell? ⟨w.heap.size, 2, none⟩ = some (.int .i64 b) ∧
    w'.cell? ⟨w.heap.size, 3, none⟩ = some (.int .i64 c) ∧ w'.cell? ⟨w.heap.size, 4, none⟩ = some (.int .i64 d) ∧ w'.cell? ⟨w.heap.size, 5, none⟩ = some (.string nm) :=
  ⟨h.1.2 0 _ rfl, h.1.2 1 _ rfl, h.1.2 2 _ rfl, h.1.2 3 _ rfl, h.1.2 4 _ rfl, h.1.2 5 _ rfl⟩
theorem Boxed.below {w w' w2 : World} {op a b c d : Int} {nm : ByteArray} (h : Boxed w op a b c d nm w') (hb : Below w'.heap.size w' w2) : Boxed w op a b c d nm w2 :=
  ⟨h.1.below hb, h.2.trans (hb.mono h.2.size)⟩
theorem Boxed.drew {w w' : World} {op a b c d : Int} {nm : ByteArray} (h : Boxed w op a b c d nm w') : Boxed w op a b c d nm w'.drew := ⟨h.1.drew, h.2.drew⟩
set_option maxHeartbeats 1000000 in
theorem is1 (a b c d : Int) (nm : ByteArray) (w : World) : Calls Tryz.prog 79 #[.agg #[.int .i64 1, .int .i64 a, .int .i64 b, .int .i64 c, .int .i64 d, .string nm]] w (GivesBool (regNum a b c d 0 999999 nm) w) := by
  have X0 : Hid (Boxed w 1 a b c d nm (w.alloc (.cells #[.int .i64 1, .int .i64 a, .int .i64 b, .int .i64 c, .int .i64 d, .string nm] 32)).drew) := Lib.hid (Boxed.mk_ w 1 a b c d nm _).drew
  have A1 := fieldFits
  go_enter Tryz.func79, Tryz.ntmps79
  go_wp2_with fail
  go_region_held3 (fun w' => w'.cell? ⟨w.heap.size, 0, none⟩ = some (.int .i64 1) ∧ w'.cell? ⟨w.heap.size, 1, none⟩ = some (.int .i64 a) ∧ w'.cell? ⟨w.heap.size, 2, none⟩ = some (.int .i64 b) ∧ w'.cell? ⟨w.heap.size, 3, none⟩ = some (.int .i64 c) ∧ w'.cell? ⟨w.heap.size, 4, none⟩ = some (.int .i64 d) ∧ w'.cell? ⟨w.heap.size, 5, none⟩ = some (.string nm))
    (first | with_reducible exact X0.out.six | with_reducible exact X1.out.six | with_reducible exact X2.out.six)
    (first
    | (go_at_call 36; (with_reducible refine (form1 _).mono ?_); rintro e w5 ⟨rfl, hb5⟩
       have X1 := Lib.hid (X0.out.below hb5)
       clear hb5)
    | (go_at_call 61; (with_reducible refine (fitConst _ _ _ _ _ _ _).mono ?_); rintro e w6 ⟨rfl, hb6⟩
       have X2 := Lib.hid (X1.out.below hb6)
       clear hb6))
  all_goals (
    go_wp2_with fail
    go_ret
    exact GivesBool.of rfl X2.out.2)
set_option maxHeartbeats 1000000 in
theorem is2 (a b c d : Int) (nm : ByteArray) (w : World) : Calls Tryz.prog 79 #[.agg #[.int .i64 2, .int .i64 a, .int .i64 b, .int .i64 c, .int .i64 d, .string nm]] w (GivesBool (regNum a b c d 0 1 nm) w) := by
  have X0 : Hid (Boxed w 2 a b c d nm (w.alloc (.cells #[.int .i64 2, .int .i64 a, .int .i64 b, .int .i64 c, .int .i64 d, .string nm] 32)).drew) := Lib.hid (Boxed.mk_ w 2 a b c d nm _).drew
  have A1 := fieldFits
  go_enter Tryz.func79, Tryz.ntmps79
  go_wp2_with fail
  go_region_held3 (fun w' => w'.cell? ⟨w.heap.size, 0, none⟩ = some (.int .i64 2) ∧ w'.cell? ⟨w.heap.size, 1, none⟩ = some (.int .i64 a) ∧ w'.cell? ⟨w.heap.size, 2, none⟩ = some (.int .i64 b) ∧ w'.cell? ⟨w.heap.size, 3, none⟩ = some (.int .i64 c) ∧ w'.cell? ⟨w.heap.size, 4, none⟩ = some (.int .i64 d) ∧ w'.cell? ⟨w.heap.size, 5, none⟩ = some (.string nm))
    (first | with_reducible exact X0.out.six | with_reducible exact X1.out.six | with_reducible exact X2.out.six)
    (first
    | (go_at_call 36; (with_reducible refine (form2 _).mono ?_); rintro e w5 ⟨rfl, hb5⟩
       have X1 := Lib.hid (X0.out.below hb5)
       clear hb5)
    | (go_at_call 62; (with_reducible refine (fitArg _ _ _ _ _ _ _).mono ?_); rintro e w6 ⟨rfl, hb6⟩
       have X2 := Lib.hid (X1.out.below hb6)
       clear hb6))
  all_goals (
    go_wp2_with fail
    go_ret
    exact GivesBool.of rfl X2.out.2)
set_option maxHeartbeats 1000000 in
theorem is3 (a b c d : Int) (nm : ByteArray) (w : World) : Calls Tryz.prog 79 #[.agg #[.int .i64 3, .int .i64 a, .int .i64 b, .int .i64 c, .int .i64 d, .string nm]] w (GivesBool (regNum a b c d 0 2 nm) w) := by
  have X0 : Hid (Boxed w 3 a b c d nm (w.alloc (.cells #[.int .i64 3, .int .i64 a, .int .i64 b, .int .i64 c, .int .i64 d, .string nm] 32)).drew) := Lib.hid (Boxed.mk_ w 3 a b c d nm _).drew
  have A1 := fieldFits
  go_enter Tryz.func79, Tryz.ntmps79
  go_wp2_with fail
  go_region_held3 (fun w' => w'.cell? ⟨w.heap.size, 0, none⟩ = some (.int .i64 3) ∧ w'.cell? ⟨w.heap.size, 1, none⟩ = some (.int .i64 a) ∧ w'.cell? ⟨w.heap.size, 2, none⟩ = some (.int .i64 b) ∧ w'.cell? ⟨w.heap.size, 3, none⟩ = some (.int .i64 c) ∧ w'.cell? ⟨w.heap.size, 4, none⟩ = some (.int .i64 d) ∧ w'.cell? ⟨w.heap.size, 5, none⟩ = some (.string nm))
    (first | with_reducible exact X0.out.six | with_reducible exact X1.out.six | with_reducible exact X2.out.six)
    (first
    | (go_at_call 36; (with_reducible refine (form3 _).mono ?_); rintro e w5 ⟨rfl, hb5⟩
       have X1 := Lib.hid (X0.out.below hb5)
       clear hb5)
    | (go_at_call 63; (with_reducible refine (fitSlot _ _ _ _ _ _ _).mono ?_); rintro e w6 ⟨rfl, hb6⟩
       have X2 := Lib.hid (X1.out.below hb6)
       clear hb6))
  all_goals (
    go_wp2_with fail
    go_ret
    exact GivesBool.of rfl X2.out.2)
set_option maxHeartbeats 1000000 in
theorem is4 (a b c d : Int) (nm : ByteArray) (w : World) : Calls Tryz.prog 79 #[.agg #[.int .i64 4, .int .i64 a, .int .i64 b, .int .i64 c, .int .i64 d, .string nm]] w (GivesBool (oneReg a b c d nm) w) := by
  have X0 : Hid (Boxed w 4 a b c d nm (w.alloc (.cells #[.int .i64 4, .int .i64 a, .int .i64 b, .int .i64 c, .int .i64 d, .string nm] 32)).drew) := Lib.hid (Boxed.mk_ w 4 a b c d nm _).drew
  have A1 := fieldFits
  go_enter Tryz.func79, Tryz.ntmps79
  go_wp2_with fail
  go_region_held3 (fun w' => w'.cell? ⟨w.heap.size, 0, none⟩ = some (.int .i64 4) ∧ w'.cell? ⟨w.heap.size, 1, none⟩ = some (.int .i64 a) ∧ w'.cell? ⟨w.heap.size, 2, none⟩ = some (.int .i64 b) ∧ w'.cell? ⟨w.heap.size, 3, none⟩ = some (.int .i64 c) ∧ w'.cell? ⟨w.heap.size, 4, none⟩ = some (.int .i64 d) ∧ w'.cell? ⟨w.heap.size, 5, none⟩ = some (.string nm))
    (first | with_reducible exact X0.out.six | with_reducible exact X1.out.six | with_reducible exact X2.out.six)
    (first
    | (go_at_call 36; (with_reducible refine (form4 _).mono ?_); rintro e w5 ⟨rfl, hb5⟩
       have X1 := Lib.hid (X0.out.below hb5)
       clear hb5)
    | (go_at_call 64; (with_reducible refine (fitOne _ _ _ _ _ _ _).mono ?_); rintro e w6 ⟨rfl, hb6⟩
       have X2 := Lib.hid (X1.out.below hb6)
       clear hb6))
  all_goals (
    go_wp2_with fail
    go_ret
    exact GivesBool.of rfl X2.out.2)
set_option maxHeartbeats 1000000 in
theorem is5 (a b c d : Int) (nm : ByteArray) (w : World) : Calls Tryz.prog 79 #[.agg #[.int .i64 5, .int .i64 a, .int .i64 b, .int .i64 c, .int .i64 d, .string nm]] w (GivesBool (addI a b c d nm) w) := by
  have X0 : Hid (Boxed w 5 a b c d nm (w.alloc (.cells #[.int .i64 5, .int .i64 a, .int .i64 b, .int .i64 c, .int .i64 d, .string nm] 32)).drew) := Lib.hid (Boxed.mk_ w 5 a b c d nm _).drew
  have A1 := fieldFits
  go_enter Tryz.func79, Tryz.ntmps79
  go_wp2_with fail
  go_region_held3 (fun w' => w'.cell? ⟨w.heap.size, 0, none⟩ = some (.int .i64 5) ∧ w'.cell? ⟨w.heap.size, 1, none⟩ = some (.int .i64 a) ∧ w'.cell? ⟨w.heap.size, 2, none⟩ = some (.int .i64 b) ∧ w'.cell? ⟨w.heap.size, 3, none⟩ = some (.int .i64 c) ∧ w'.cell? ⟨w.heap.size, 4, none⟩ = some (.int .i64 d) ∧ w'.cell? ⟨w.heap.size, 5, none⟩ = some (.string nm))
    (first | with_reducible exact X0.out.six | with_reducible exact X1.out.six | with_reducible exact X2.out.six)
    (first
    | (go_at_call 36; (with_reducible refine (form5 _).mono ?_); rintro e w5 ⟨rfl, hb5⟩
       have X1 := Lib.hid (X0.out.below hb5)
       clear hb5)
    | (go_at_call 65; (with_reducible refine (fitAdd _ _ _ _ _ _ _).mono ?_); rintro e w6 ⟨rfl, hb6⟩
       have X2 := Lib.hid (X1.out.below hb6)
       clear hb6))
  all_goals (
    go_wp2_with fail
    go_ret
    exact GivesBool.of rfl X2.out.2)
set_option maxHeartbeats 1000000 in
theorem is6 (a b c d : Int) (nm : ByteArray) (w : World) : Calls Tryz.prog 79 #[.agg #[.int .i64 6, .int .i64 a, .int .i64 b, .int .i64 c, .int .i64 d, .string nm]] w (GivesBool (sendI a b c d nm) w) := by
  have X0 : Hid (Boxed w 6 a b c d nm (w.alloc (.cells #[.int .i64 6, .int .i64 a, .int .i64 b, .int .i64 c, .int .i64 d, .string nm] 32)).drew) := Lib.hid (Boxed.mk_ w 6 a b c d nm _).drew
  have A1 := fieldFits
  go_enter Tryz.func79, Tryz.ntmps79
  go_wp2_with fail
  go_region_held3 (fun w' => w'.cell? ⟨w.heap.size, 0, none⟩ = some (.int .i64 6) ∧ w'.cell? ⟨w.heap.size, 1, none⟩ = some (.int .i64 a) ∧ w'.cell? ⟨w.heap.size, 2, none⟩ = some (.int .i64 b) ∧ w'.cell? ⟨w.heap.size, 3, none⟩ = some (.int .i64 c) ∧ w'.cell? ⟨w.heap.size, 4, none⟩ = some (.int .i64 d) ∧ w'.cell? ⟨w.heap.size, 5, none⟩ = some (.string nm))
    (first | with_reducible exact X0.out.six | with_reducible exact X1.out.six | with_reducible exact X2.out.six)
    (first
    | (go_at_call 36; (with_reducible refine (form6 _).mono ?_); rintro e w5 ⟨rfl, hb5⟩
       have X1 := Lib.hid (X0.out.below hb5)
       clear hb5)
    | (go_at_call 67; (with_reducible refine (fitSend _ _ _ _ _ _ _).mono ?_); rintro e w6 ⟨rfl, hb6⟩
       have X2 := Lib.hid (X1.out.below hb6)
       clear hb6))
  all_goals (
    go_wp2_with fail
    go_ret
    exact GivesBool.of rfl X2.out.2)
set_option maxHeartbeats 1000000 in
theorem is7 (a b c d : Int) (nm : ByteArray) (w : World) : Calls Tryz.prog 79 #[.agg #[.int .i64 7, .int .i64 a, .int .i64 b, .int .i64 c, .int .i64 d, .string nm]] w (GivesBool (newI a b c d nm) w) := by
  have X0 : Hid (Boxed w 7 a b c d nm (w.alloc (.cells #[.int .i64 7, .int .i64 a, .int .i64 b, .int .i64 c, .int .i64 d, .string nm] 32)).drew) := Lib.hid (Boxed.mk_ w 7 a b c d nm _).drew
  have A1 := fieldFits
  go_enter Tryz.func79, Tryz.ntmps79
  go_wp2_with fail
  go_region_held3 (fun w' => w'.cell? ⟨w.heap.size, 0, none⟩ = some (.int .i64 7) ∧ w'.cell? ⟨w.heap.size, 1, none⟩ = some (.int .i64 a) ∧ w'.cell? ⟨w.heap.size, 2, none⟩ = some (.int .i64 b) ∧ w'.cell? ⟨w.heap.size, 3, none⟩ = some (.int .i64 c) ∧ w'.cell? ⟨w.heap.size, 4, none⟩ = some (.int .i64 d) ∧ w'.cell? ⟨w.heap.size, 5, none⟩ = some (.string nm))
    (first | with_reducible exact X0.out.six | with_reducible exact X1.out.six | with_reducible exact X2.out.six)
    (first
    | (go_at_call 36; (with_reducible refine (form7 _).mono ?_); rintro e w5 ⟨rfl, hb5⟩
       have X1 := Lib.hid (X0.out.below hb5)
       clear hb5)
    | (go_at_call 69; (with_reducible refine (fitNew _ _ _ _ _ _ _).mono ?_); rintro e w6 ⟨rfl, hb6⟩
       have X2 := Lib.hid (X1.out.below hb6)
       clear hb6))
  all_goals (
    go_wp2_with fail
    go_ret
    exact GivesBool.of rfl X2.out.2)
set_option maxHeartbeats 1000000 in
theorem is8 (a b c d : Int) (nm : ByteArray) (w : World) : Calls Tryz.prog 79 #[.agg #[.int .i64 8, .int .i64 a, .int .i64 b, .int .i64 c, .int .i64 d, .string nm]] w (GivesBool (setI a b c d nm) w) := by
  have X0 : Hid (Boxed w 8 a b c d nm (w.alloc (.cells #[.int .i64 8, .int .i64 a, .int .i64 b, .int .i64 c, .int .i64 d, .string nm] 32)).drew) := Lib.hid (Boxed.mk_ w 8 a b c d nm _).drew
  have A1 := fieldFits
  go_enter Tryz.func79, Tryz.ntmps79
  go_wp2_with fail
  go_region_held3 (fun w' => w'.cell? ⟨w.heap.size, 0, none⟩ = some (.int .i64 8) ∧ w'.cell? ⟨w.heap.size, 1, none⟩ = some (.int .i64 a) ∧ w'.cell? ⟨w.heap.size, 2, none⟩ = some (.int .i64 b) ∧ w'.cell? ⟨w.heap.size, 3, none⟩ = some (.int .i64 c) ∧ w'.cell? ⟨w.heap.size, 4, none⟩ = some (.int .i64 d) ∧ w'.cell? ⟨w.heap.size, 5, none⟩ = some (.string nm))
    (first | with_reducible exact X0.out.six | with_reducible exact X1.out.six | with_reducible exact X2.out.six)
    (first
    | (go_at_call 36; (with_reducible refine (form8 _).mono ?_); rintro e w5 ⟨rfl, hb5⟩
       have X1 := Lib.hid (X0.out.below hb5)
       clear hb5)
    | (go_at_call 71; (with_reducible refine (fitSet _ _ _ _ _ _ _).mono ?_); rintro e w6 ⟨rfl, hb6⟩
       have X2 := Lib.hid (X1.out.below hb6)
       clear hb6))
  all_goals (
    go_wp2_with fail
    go_ret
    exact GivesBool.of rfl X2.out.2)
set_option maxHeartbeats 1000000 in
theorem is9 (a b c d : Int) (nm : ByteArray) (w : World) : Calls Tryz.prog 79 #[.agg #[.int .i64 9, .int .i64 a, .int .i64 b, .int .i64 c, .int .i64 d, .string nm]] w (GivesBool (regNum a b c d 1 12 nm) w) := by
  have X0 : Hid (Boxed w 9 a b c d nm (w.alloc (.cells #[.int .i64 9, .int .i64 a, .int .i64 b, .int .i64 c, .int .i64 d, .string nm] 32)).drew) := Lib.hid (Boxed.mk_ w 9 a b c d nm _).drew
  have A1 := fieldFits
  go_enter Tryz.func79, Tryz.ntmps79
  go_wp2_with fail
  go_region_held3 (fun w' => w'.cell? ⟨w.heap.size, 0, none⟩ = some (.int .i64 9) ∧ w'.cell? ⟨w.heap.size, 1, none⟩ = some (.int .i64 a) ∧ w'.cell? ⟨w.heap.size, 2, none⟩ = some (.int .i64 b) ∧ w'.cell? ⟨w.heap.size, 3, none⟩ = some (.int .i64 c) ∧ w'.cell? ⟨w.heap.size, 4, none⟩ = some (.int .i64 d) ∧ w'.cell? ⟨w.heap.size, 5, none⟩ = some (.string nm))
    (first | with_reducible exact X0.out.six | with_reducible exact X1.out.six | with_reducible exact X2.out.six)
    (first
    | (go_at_call 36; (with_reducible refine (form9 _).mono ?_); rintro e w5 ⟨rfl, hb5⟩
       have X1 := Lib.hid (X0.out.below hb5)
       clear hb5)
    | (go_at_call 73; (with_reducible refine (fitSkip _ _ _ _ _ _ _).mono ?_); rintro e w6 ⟨rfl, hb6⟩
       have X2 := Lib.hid (X1.out.below hb6)
       clear hb6))
  all_goals (
    go_wp2_with fail
    go_ret
    exact GivesBool.of rfl X2.out.2)
set_option maxHeartbeats 1000000 in
theorem is10 (a b c d : Int) (nm : ByteArray) (w : World) : Calls Tryz.prog 79 #[.agg #[.int .i64 10, .int .i64 a, .int .i64 b, .int .i64 c, .int .i64 d, .string nm]] w (GivesBool (oneReg a b c d nm) w) := by
  have X0 : Hid (Boxed w 10 a b c d nm (w.alloc (.cells #[.int .i64 10, .int .i64 a, .int .i64 b, .int .i64 c, .int .i64 d, .string nm] 32)).drew) := Lib.hid (Boxed.mk_ w 10 a b c d nm _).drew
  have A1 := fieldFits
  go_enter Tryz.func79, Tryz.ntmps79
  go_wp2_with fail
  go_region_held3 (fun w' => w'.cell? ⟨w.heap.size, 0, none⟩ = some (.int .i64 10) ∧ w'.cell? ⟨w.heap.size, 1, none⟩ = some (.int .i64 a) ∧ w'.cell? ⟨w.heap.size, 2, none⟩ = some (.int .i64 b) ∧ w'.cell? ⟨w.heap.size, 3, none⟩ = some (.int .i64 c) ∧ w'.cell? ⟨w.heap.size, 4, none⟩ = some (.int .i64 d) ∧ w'.cell? ⟨w.heap.size, 5, none⟩ = some (.string nm))
    (first | with_reducible exact X0.out.six | with_reducible exact X1.out.six | with_reducible exact X2.out.six)
    (first
    | (go_at_call 36; (with_reducible refine (form10 _).mono ?_); rintro e w5 ⟨rfl, hb5⟩
       have X1 := Lib.hid (X0.out.below hb5)
       clear hb5)
    | (go_at_call 64; (with_reducible refine (fitOne _ _ _ _ _ _ _).mono ?_); rintro e w6 ⟨rfl, hb6⟩
       have X2 := Lib.hid (X1.out.below hb6)
       clear hb6))
  all_goals (
    go_wp2_with fail
    go_ret
    exact GivesBool.of rfl X2.out.2)
set_option maxHeartbeats 1000000 in
theorem is0 (op a b c d : Int) (nm : ByteArray) (w : World) (h : ¬ (1 ≤ op ∧ op ≤ 10)) : Calls Tryz.prog 79 #[.agg #[.int .i64 op, .int .i64 a, .int .i64 b, .int .i64 c, .int .i64 d, .string nm]] w (GivesBool (false) w) := by
  have H := Lib.hid h
  clear h
  have X0 : Hid (Boxed w op a b c d nm (w.alloc (.cells #[.int .i64 op, .int .i64 a, .int .i64 b, .int .i64 c, .int .i64 d, .string nm] 32)).drew) := Lib.hid (Boxed.mk_ w op a b c d nm _).drew
  have A1 := fieldFits
  go_enter Tryz.func79, Tryz.ntmps79
  go_wp2_with fail
  go_region_held3 (fun w' => w'.cell? ⟨w.heap.size, 0, none⟩ = some (.int .i64 op) ∧ w'.cell? ⟨w.heap.size, 1, none⟩ = some (.int .i64 a) ∧ w'.cell? ⟨w.heap.size, 2, none⟩ = some (.int .i64 b) ∧ w'.cell? ⟨w.heap.size, 3, none⟩ = some (.int .i64 c) ∧ w'.cell? ⟨w.heap.size, 4, none⟩ = some (.int .i64 d) ∧ w'.cell? ⟨w.heap.size, 5, none⟩ = some (.string nm))
    (first | with_reducible exact X0.out.six | with_reducible exact X1.out.six | with_reducible exact X2.out.six)
    (first
    | (go_at_call 36; (with_reducible refine (form0 op _ H.out).mono ?_); rintro e w5 ⟨rfl, hb5⟩
       have X1 := Lib.hid (X0.out.below hb5)
       clear hb5)
    | (go_at_call 59; (with_reducible refine (fitNone _ _ _ _ _ _ _).mono ?_); rintro e w6 ⟨rfl, hb6⟩
       have X2 := Lib.hid (X1.out.below hb6)
       clear hb6))
  all_goals (
    go_wp2_with fail
    go_ret
    exact GivesBool.of rfl X2.out.2)
theorem implIs (x : I) (w : World) : Calls Tryz.prog 79 #[.agg #[.int .i64 x.op, .int .i64 x.a, .int .i64 x.b, .int .i64 x.c, .int .i64 x.d, .string x.name]] w (GivesBool (isI x) w) := by
  obtain ⟨op, a, b, c, d, nm⟩ := x
  rcases opCases op with rfl | rfl | rfl | rfl | rfl | rfl | rfl | rfl | rfl | rfl | h
  · exact is1 a b c d nm w
  · exact is2 a b c d nm w
  · exact is3 a b c d nm w
  · exact is4 a b c d nm w
  · exact is5 a b c d nm w
  · exact is6 a b c d nm w
  · exact is7 a b c d nm w
  · exact is8 a b c d nm w
  · exact is9 a b c d nm w
  · exact is10 a b c d nm w
  · have e : isI ⟨op, a, b, c, d, nm⟩ = false := by
      unfold isI
      simp only []
      repeat (rw [if_neg (by omega)])
    rw [e]
    exact is0 op a b c d nm w h
end Go.Proofs.YtgibhbplgiejpaaGreat
