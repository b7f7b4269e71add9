/- The program's checks of one operation's instructions. -/
import Derived.Test.YtgibhbplgiejpaaGreatInsA
import Derived.Test.YtgibhbplgiejpaaGreatForm
namespace Go.Proofs.YtgibhbplgiejpaaGreat
open Go.RowKit
set_option linter.unusedVariables false
set_option linter.unusedSimpArgs false
set_option maxHeartbeats 1000000 in
theorem fitRN (op a b c d lo hi : Int) (nm : ByteArray) (w : World) : Calls Tryz.prog 93 #[.agg #[.int .i64 op, .int .i64 a, .int .i64 b, .int .i64 c, .int .i64 d, .string nm], .int .i64 lo, .int .i64 hi] w (GivesBool (regNum a b c d lo hi nm) w) := by
  go_enter Tryz.func93, Tryz.ntmps93
  go_wp2_with (first
  | (go_at_call 94; (with_reducible refine (implIsReg _ _).mono ?_); rintro e w' ⟨rfl, rfl⟩)
  | (go_at_call 75; (with_reducible refine (implInR _ _ _ _).mono ?_); rintro e w' ⟨rfl, rfl⟩))
  all_goals (
    go_ret
    refine GivesBool.of ?_ (by go_grown)
    simp [regNum, plain, *])
set_option maxHeartbeats 1000000 in
theorem fitOne (op a b c d : Int) (nm : ByteArray) (w : World) : Calls Tryz.prog 64 #[.agg #[.int .i64 op, .int .i64 a, .int .i64 b, .int .i64 c, .int .i64 d, .string nm]] w (GivesBool (oneReg a b c d nm) w) := by
  go_enter Tryz.func64, Tryz.ntmps64
  go_wp2_with (go_at_call 94; (with_reducible refine (implIsReg _ _).mono ?_); rintro e w' ⟨rfl, rfl⟩)
  all_goals (
    go_ret
    refine GivesBool.of ?_ (by go_grown)
    simp [oneReg, plain, *])
set_option maxHeartbeats 1000000 in
theorem fitAdd (op a b c d : Int) (nm : ByteArray) (w : World) : Calls Tryz.prog 65 #[.agg #[.int .i64 op, .int .i64 a, .int .i64 b, .int .i64 c, .int .i64 d, .string nm]] w (GivesBool (addI a b c d nm) w) := by
  go_enter Tryz.func65, Tryz.ntmps65
  go_wp2_with (go_at_call 94; (with_reducible refine (implIsReg _ _).mono ?_); rintro e w' ⟨rfl, rfl⟩)
  all_goals (
    go_ret
    refine GivesBool.of ?_ (by go_grown)
    simp [addI, *])
set_option maxHeartbeats 1000000 in
theorem fitSet (op a b c d : Int) (nm : ByteArray) (w : World) : Calls Tryz.prog 71 #[.agg #[.int .i64 op, .int .i64 a, .int .i64 b, .int .i64 c, .int .i64 d, .string nm]] w (GivesBool (setI a b c d nm) w) := by
  go_enter Tryz.func71, Tryz.ntmps71
  go_wp2_with (first
  | (go_at_call 94; (with_reducible refine (implIsReg _ _).mono ?_); rintro e w' ⟨rfl, rfl⟩)
  | (go_at_call 75; (with_reducible refine (implInR _ _ _ _).mono ?_); rintro e w' ⟨rfl, rfl⟩))
  all_goals (
    go_ret
    refine GivesBool.of ?_ (by go_grown)
    simp [setI, plain, *])
theorem isReg_neg : isReg (-1) = false := by decide
theorem two_neg (d : Int) : (d == -1) = two (-1) d := by
  rw [Bool.eq_iff_iff]
  simp [two, isReg_neg]
theorem two_not {c d : Int} (hc : (c == -1) = false) (h : isReg c = false) : false = two c d := by
  have : ¬ c = -1 := by simpa using hc
  simp [two, h, this]
theorem two_reg {c : Int} (d : Int) (hc : (c == -1) = false) (h : isReg c = true) : ((d == -1) || isReg d) = two c d := by
  have : ¬ c = -1 := by simpa using hc
  rw [Bool.eq_iff_iff]
  simp [two, h, this]
set_option maxHeartbeats 1000000 in
theorem fitTwo (op a b c d : Int) (nm : ByteArray) (w : World) : Calls Tryz.prog 95 #[.agg #[.int .i64 op, .int .i64 a, .int .i64 b, .int .i64 c, .int .i64 d, .string nm]] w (GivesBool (two c d) w) := by
  by_cases hc : c = -1
  · subst hc
    have H := Lib.hid (two_neg d)
    go_enter Tryz.func95, Tryz.ntmps95
    go_wp2
    go_ret
    exact GivesBool.of H.out (by go_grown)
  · have hc' : (c == -1) = false := by simpa using hc
    clear hc
    by_cases h1 : isReg c = true
    · have H := Lib.hid (two_reg d hc' h1)
      by_cases hd : d = -1
      · subst hd
        go_enter Tryz.func95, Tryz.ntmps95
        go_wp2_with (go_at_call 94; (with_reducible refine (implIsReg _ _).mono ?_); rintro e w' ⟨rfl, rfl⟩)
        go_ret
        exact GivesBool.of (by simpa using H.out) (by go_grown)
      · have hd' : (d == -1) = false := by simpa using hd
        clear hd
        have H2 : Hid (isReg d = two c d) := Lib.hid (by have := H.out; rw [hd', Bool.false_or] at this; exact this)
        go_enter Tryz.func95, Tryz.ntmps95
        go_wp2_with (go_at_call 94; (with_reducible refine (implIsReg _ _).mono ?_); rintro e w' ⟨rfl, rfl⟩)
        go_ret
        exact GivesBool.of H2.out (by go_grown)
    · have h1' : isReg c = false := by simpa using h1
      have H := Lib.hid (two_not (d := d) hc' h1')
      clear h1
      go_enter Tryz.func95, Tryz.ntmps95
      go_wp2_with (go_at_call 94; (with_reducible refine (implIsReg _ _).mono ?_); rintro e w' ⟨rfl, rfl⟩)
      go_ret
      exact GivesBool.of H.out (by go_grown)
theorem fitConst (op a b c d : Int) (nm : ByteArray) (w : World) : Calls Tryz.prog 61 #[.agg #[.int .i64 op, .int .i64 a, .int .i64 b, .int .i64 c, .int .i64 d, .string nm]] w (GivesBool (regNum a b c d 0 999999 nm) w) := by
  go_enter Tryz.func61, Tryz.ntmps61
  go_wp2_with fail
  refine (fitRN op a b c d 0 999999 nm _).mono ?_
  rintro e w1 ⟨rfl, hb⟩
  go_wp2_with fail
  go_ret
  exact GivesBool.of rfl (((Below.refl _ _).alloc (Nat.le_refl _) _).trans (hb.mono (by simp)))
theorem fitArg (op a b c d : Int) (nm : ByteArray) (w : World) : Calls Tryz.prog 62 #[.agg #[.int .i64 op, .int .i64 a, .int .i64 b, .int .i64 c, .int .i64 d, .string nm]] w (GivesBool (regNum a b c d 0 1 nm) w) := by
  go_enter Tryz.func62, Tryz.ntmps62
  go_wp2_with fail
  refine (fitRN op a b c d 0 1 nm _).mono ?_
  rintro e w1 ⟨rfl, hb⟩
  go_wp2_with fail
  go_ret
  exact GivesBool.of rfl (((Below.refl _ _).alloc (Nat.le_refl _) _).trans (hb.mono (by simp)))
theorem fitSlot (op a b c d : Int) (nm : ByteArray) (w : World) : Calls Tryz.prog 63 #[.agg #[.int .i64 op, .int .i64 a, .int .i64 b, .int .i64 c, .int .i64 d, .string nm]] w (GivesBool (regNum a b c d 0 2 nm) w) := by
  go_enter Tryz.func63, Tryz.ntmps63
  go_wp2_with fail
  refine (fitRN op a b c d 0 2 nm _).mono ?_
  rintro e w1 ⟨rfl, hb⟩
  go_wp2_with fail
  go_ret
  exact GivesBool.of rfl (((Below.refl _ _).alloc (Nat.le_refl _) _).trans (hb.mono (by simp)))
theorem fitSkip (op a b c d : Int) (nm : ByteArray) (w : World) : Calls Tryz.prog 73 #[.agg #[.int .i64 op, .int .i64 a, .int .i64 b, .int .i64 c, .int .i64 d, .string nm]] w (GivesBool (regNum a b c d 1 12 nm) w) := by
  go_enter Tryz.func73, Tryz.ntmps73
  go_wp2_with fail
  refine (fitRN op a b c d 1 12 nm _).mono ?_
  rintro e w1 ⟨rfl, hb⟩
  go_wp2_with fail
  go_ret
  exact GivesBool.of rfl (((Below.refl _ _).alloc (Nat.le_refl _) _).trans (hb.mono (by simp)))
set_option maxHeartbeats 1000000 in
theorem fitNone (op a b c d : Int) (nm : ByteArray) (w : World) : Calls Tryz.prog 59 #[.agg #[.int .i64 op, .int .i64 a, .int .i64 b, .int .i64 c, .int .i64 d, .string nm]] w (GivesBool (false) w) := by
  go_enter Tryz.func59, Tryz.ntmps59
  go_wp2_with fail
  all_goals (
    go_ret
    refine GivesBool.of ?_ (by go_grown)
    simp [*])
set_option maxHeartbeats 1000000 in
theorem fitSend (op a b c d : Int) (nm : ByteArray) (w : World) : Calls Tryz.prog 67 #[.agg #[.int .i64 op, .int .i64 a, .int .i64 b, .int .i64 c, .int .i64 d, .string nm]] w (GivesBool (sendI a b c d nm) w) := by
  go_enter Tryz.func67, Tryz.ntmps67
  go_wp2_with (first
  | (go_at_call 94; (with_reducible refine (implIsReg _ _).mono ?_); rintro e w' ⟨rfl, rfl⟩)
  | (go_at_call 95; (with_reducible refine (fitTwo _ _ _ _ _ _ _).mono ?_); rintro e w1 ⟨rfl, hb⟩
     have c5 : w1.cell? ⟨w.heap.size, 5, none⟩ = some (.string nm) := (hb.cell (p := ⟨w.heap.size, 5, none⟩) (by simp)).trans (by simp [go_sem])
     have B1 : Hid (Below w.heap.size w w1) := Lib.hid (((Below.refl _ _).alloc (Nat.le_refl _) _).trans (hb.mono (by simp)))
     clear hb)
  | (go_at_call 41; (with_reducible refine (implName _ _).mono ?_); rintro e w2 ⟨rfl, hb⟩
     have B2 : Hid (Below w.heap.size w w2) := Lib.hid (B1.out.trans (hb.mono B1.out.size))
     clear hb))
  all_goals (
    go_ret
    refine GivesBool.of ?_ (by first | exact B2.out | exact B1.out | go_grown)
    simp [sendI, *])
set_option maxHeartbeats 1000000 in
theorem fitNew (op a b c d : Int) (nm : ByteArray) (w : World) : Calls Tryz.prog 69 #[.agg #[.int .i64 op, .int .i64 a, .int .i64 b, .int .i64 c, .int .i64 d, .string nm]] w (GivesBool (newI a b c d nm) w) := by
  go_enter Tryz.func69, Tryz.ntmps69
  go_wp2_with (first
  | (go_at_call 94; (with_reducible refine (implIsReg _ _).mono ?_); rintro e w' ⟨rfl, rfl⟩)
  | (go_at_call 95; (with_reducible refine (fitTwo _ _ _ _ _ _ _).mono ?_); rintro e w1 ⟨rfl, hb⟩
     have c5 : w1.cell? ⟨w.heap.size, 5, none⟩ = some (.string nm) := (hb.cell (p := ⟨w.heap.size, 5, none⟩) (by simp)).trans (by simp [go_sem])
     have B1 : Hid (Below w.heap.size w w1) := Lib.hid (((Below.refl _ _).alloc (Nat.le_refl _) _).trans (hb.mono (by simp)))
     clear hb)
  | (go_at_call 41; (with_reducible refine (implName _ _).mono ?_); rintro e w2 ⟨rfl, hb⟩
     have B2 : Hid (Below w.heap.size w w2) := Lib.hid (B1.out.trans (hb.mono B1.out.size))
     clear hb))
  all_goals (
    go_ret
    refine GivesBool.of ?_ (by first | exact B2.out | exact B1.out | go_grown)
    simp [newI, *])
end Go.Proofs.YtgibhbplgiejpaaGreat
