/- The exact laws of IsName, IsReg, OpName, TargetOf, IsInstr. -/
import Derived.Test.YtamnalkoacpcoaaInsL
import Derived.Test.YtamnalkoacpcoaaSpecIs
namespace Go.Proofs.Ytamnalkoacpcoaa
open Go.RowKit
set_option linter.unusedVariables false
theorem law_IsReg (n : Int) (W : World) : Calls Try.prog 5 #[.int .i64 n] W (GivesBool true W) := by
  obtain ⟨b, hb⟩ : ∃ b, isReg n = b := ⟨_, rfl⟩
  have HB := Lib.hid hb
  clear hb
  go_enter Try.func5, Try.ntmps5
  go_wp2_with fail
  refine (specIsReg n _).mono ?_
  rintro e w' ⟨rfl, rfl⟩
  rw [HB.out]
  go_wp2_with fail
  refine (implIsReg n _).mono ?_
  rintro e w' ⟨rfl, rfl⟩
  rw [HB.out]
  go_wp2_with fail
  all_goals (go_ret; exact GivesBool.ret (Below.refl _ _))
theorem law_IsName (s : ByteArray) (W : World) (hs : s.size ≤ 140737488351232) : Calls Try.prog 4 #[.string s] W (GivesBool true W) := by
  by_cases hn : s.size ≤ 1048576
  · obtain ⟨b, hb⟩ : ∃ b, isName s = b := ⟨_, rfl⟩
    have HB := Lib.hid hb
    clear hb
    go_enter Try.func4, Try.ntmps4
    go_wp2_with fail
    refine (specName s _ hs).mono ?_
    rintro e w' ⟨rfl, rfl⟩
    rw [HB.out]
    go_wp2_with fail
    refine (implName s _).mono ?_
    rintro e w1 ⟨rfl, hb⟩
    rw [HB.out]
    have H1 := Lib.hid hb
    clear hb
    go_wp2_with fail
    all_goals (go_ret; exact GivesBool.ret H1.out)
  · go_enter Try.func4, Try.ntmps4
    go_wp2
    go_ret
    exact GivesBool.ret (Below.refl _ _)
theorem law_OpName (op : Int) (W : World) : Calls Try.prog 7 #[.int .i64 op] W (GivesBool true W) := by
  obtain ⟨s, hb⟩ : ∃ s, opName op = s := ⟨_, rfl⟩
  have HB := Lib.hid hb
  clear hb
  go_enter Try.func7, Try.ntmps7
  go_wp2_with fail
  refine (specOp op _).mono ?_
  rintro e w1 ⟨rfl, hb⟩
  rw [HB.out]
  have H1 := Lib.hid hb
  clear hb
  go_wp2_with fail
  refine (implOp op _).mono ?_
  rintro e w2 ⟨rfl, hb⟩
  rw [HB.out]
  have H2 := Lib.hid (H1.out.trans (hb.mono H1.out.size))
  clear hb
  go_wp2_with fail
  go_ret
  exact GivesBool.ret H2.out
theorem leftI_big {nm : ByteArray} (h : ¬ nm.size ≤ 1048576) : leftI nm 1048576 = -1 := if_pos (by omega)
theorem leftI_fits {nm : ByteArray} (h : nm.size ≤ 1048576) : leftI nm 1048576 = 1048576 - nm.size := if_neg (by omega)
/-- The argument's box. -/
def BoxX (W : World) (x : I) (w : World) : Prop := Box W.heap.size [.int .i64 x.op, .int .i64 x.a, .int .i64 x.b, .int .i64 x.c, .int .i64 x.d, .string x.name] w ∧ Below W.heap.size W w
theorem BoxX.mk_ (W : World) (x : I) (T : TypeId) : BoxX W x (W.alloc (.cells #[.int .i64 x.op, .int .i64 x.a, .int .i64 x.b, .int .i64 x.c, .int .i64 x.d, .string x.name] T)) := ⟨Box.new W #[.int .i64 x.op, .int .i64 x.a, .int .i64 x.b, .int .i64 x.c, .int .i64 x.d, .string x.name] T, (Below.refl _ _).alloc (Nat.le_refl _) _⟩
theorem BoxX.below {W w w' : World} {x : I} (h : BoxX W x w) (hb : Below w.heap.size w w') : BoxX W x w' := ⟨h.1.below hb, h.2.trans (hb.mono h.2.size)⟩
theorem BoxX.six {W w : World} {x : I} (h : BoxX W x w) : w.cell? ⟨W.heap.size, 0, none⟩ = some (.int .i64 x.op) ∧ w.cell? ⟨W.heap.size, 1, none⟩ = some (.int .i64 x.a) ∧ w.cell? ⟨W.heap.size, 2, none⟩ = some (.int .i64 x.b) ∧
    w.cell? ⟨W.heap.size, 3, none⟩ = some (.int .i64 x.c) ∧ w.cell? ⟨W.heap.size, 4, none⟩ = some (.int .i64 x.d) ∧ w.cell? ⟨W.heap.size, 5, none⟩ = some (.string x.name) :=
  ⟨h.1.2 0 _ rfl, h.1.2 1 _ rfl, h.1.2 2 _ rfl, h.1.2 3 _ rfl, h.1.2 4 _ rfl, h.1.2 5 _ rfl⟩
set_option maxHeartbeats 2000000 in
theorem law_IsInstrB (x : I) (r : Bool) (W : World) (hs : x.name.size ≤ 9223372036854775807) (hv : isI x = r) : Calls Try.prog 6 #[.agg #[.int .i64 x.op, .int .i64 x.a, .int .i64 x.b, .int .i64 x.c, .int .i64 x.d, .string x.name]] W (GivesBool true W) := by
  have HV := Lib.hid hv
  have X0 : Hid (BoxX W x (W.alloc (.cells #[.int .i64 x.op, .int .i64 x.a, .int .i64 x.b, .int .i64 x.c, .int .i64 x.d, .string x.name] 35))) := Lib.hid (BoxX.mk_ W x _)
  clear hv
  by_cases hn : x.name.size ≤ 1048576
  · have hL := leftI_fits hn
    rcases r with _ | _
    all_goals (
      go_enter Try.func6, Try.ntmps6
      go_wp2_with fail
      refine (szIns x 1048576 _ (by omega) (by omega) hs).mono ?_
      rintro e w1 ⟨rfl, hb⟩
      rw [hL]
      have X1 := Lib.hid (X0.out.below hb)
      clear hb X0
      obtain ⟨c0, c1, c2, c3, c4, c5⟩ := X1.out.six
      go_wp2_with fail
      refine (toIns x _).mono ?_
      rintro e w2 ⟨rfl, hb⟩
      have X2 := Lib.hid (X1.out.below hb)
      clear hb X1 c0 c1 c2 c3 c4 c5
      go_wp2_with fail
      refine (specIs x _ (by omega)).mono ?_
      rintro e w3 ⟨rfl, hb⟩
      rw [HV.out]
      have X3 := Lib.hid (X2.out.below hb)
      clear hb X2
      obtain ⟨c0, c1, c2, c3, c4, c5⟩ := X3.out.six
      go_wp2_with fail
      refine (toIns x _).mono ?_
      rintro e w4 ⟨rfl, hb⟩
      have X4 := Lib.hid (X3.out.below hb)
      clear hb X3 c0 c1 c2 c3 c4 c5
      go_wp2_with fail
      refine (implIs x _).mono ?_
      rintro e w5 ⟨rfl, hb⟩
      rw [HV.out]
      have X5 := Lib.hid (X4.out.below hb)
      clear hb X4
      go_wp2_with fail
      go_ret
      exact GivesBool.ret X5.out.2)
  · have hL := leftI_big hn
    go_enter Try.func6, Try.ntmps6
    go_wp2_with fail
    refine (szIns x 1048576 _ (by omega) (by omega) hs).mono ?_
    rintro e w1 ⟨rfl, hb⟩
    rw [hL]
    have X1 := Lib.hid (X0.out.below hb)
    clear hb X0
    go_wp2_with fail
    go_ret
    exact GivesBool.ret X1.out.2
theorem law_IsInstr (x : I) (W : World) (hs : x.name.size ≤ 9223372036854775807) : Calls Try.prog 6 #[.agg #[.int .i64 x.op, .int .i64 x.a, .int .i64 x.b, .int .i64 x.c, .int .i64 x.d, .string x.name]] W (GivesBool true W) := law_IsInstrB x _ W hs rfl
set_option maxHeartbeats 2000000 in
theorem law_TargetOfB (x : I) (r : Int) (W : World) (hs : x.name.size ≤ 9223372036854775807) (hv : targetOf x = r) : Calls Try.prog 9 #[.agg #[.int .i64 x.op, .int .i64 x.a, .int .i64 x.b, .int .i64 x.c, .int .i64 x.d, .string x.name]] W (GivesBool true W) := by
  have HV := Lib.hid hv
  have X0 : Hid (BoxX W x (W.alloc (.cells #[.int .i64 x.op, .int .i64 x.a, .int .i64 x.b, .int .i64 x.c, .int .i64 x.d, .string x.name] 35))) := Lib.hid (BoxX.mk_ W x _)
  clear hv
  by_cases hn : x.name.size ≤ 1048576
  · have hL := leftI_fits hn
    all_goals (
      go_enter Try.func9, Try.ntmps9
      go_wp2_with fail
      refine (szIns x 1048576 _ (by omega) (by omega) hs).mono ?_
      rintro e w1 ⟨rfl, hb⟩
      rw [hL]
      have X1 := Lib.hid (X0.out.below hb)
      clear hb X0
      obtain ⟨c0, c1, c2, c3, c4, c5⟩ := X1.out.six
      go_wp2_with fail
      refine (toIns x _).mono ?_
      rintro e w2 ⟨rfl, hb⟩
      have X2 := Lib.hid (X1.out.below hb)
      clear hb X1 c0 c1 c2 c3 c4 c5
      go_wp2_with fail
      refine (specTarget x _).mono ?_
      rintro e w3 ⟨rfl, hb⟩
      rw [HV.out]
      have X3 := Lib.hid (X2.out.below hb)
      clear hb X2
      obtain ⟨c0, c1, c2, c3, c4, c5⟩ := X3.out.six
      go_wp2_with fail
      refine (toIns x _).mono ?_
      rintro e w4 ⟨rfl, hb⟩
      have X4 := Lib.hid (X3.out.below hb)
      clear hb X3 c0 c1 c2 c3 c4 c5
      go_wp2_with fail
      refine (implTarget x _).mono ?_
      rintro e w5 ⟨rfl, hb⟩
      rw [HV.out]
      have X5 := Lib.hid (X4.out.below hb)
      clear hb X4
      go_wp2_with fail
      go_ret
      exact GivesBool.ret X5.out.2)
  · have hL := leftI_big hn
    go_enter Try.func9, Try.ntmps9
    go_wp2_with fail
    refine (szIns x 1048576 _ (by omega) (by omega) hs).mono ?_
    rintro e w1 ⟨rfl, hb⟩
    rw [hL]
    have X1 := Lib.hid (X0.out.below hb)
    clear hb X0
    go_wp2_with fail
    go_ret
    exact GivesBool.ret X1.out.2
theorem law_TargetOf (x : I) (W : World) (hs : x.name.size ≤ 9223372036854775807) : Calls Try.prog 9 #[.agg #[.int .i64 x.op, .int .i64 x.a, .int .i64 x.b, .int .i64 x.c, .int .i64 x.d, .string x.name]] W (GivesBool true W) := law_TargetOfB x _ W hs rfl
end Go.Proofs.Ytamnalkoacpcoaa
