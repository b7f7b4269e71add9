/- The reference's IsInstr. -/
import Derived.Test.YtgibhbplgiejpaaGreatIsI
namespace Go.Proofs.YtgibhbplgiejpaaGreat
open Go.RowKit
set_option linter.unusedVariables false
set_option linter.unusedSimpArgs false
theorem beq_dec (b : Int) : (b == 0) = decide (b = 0) := by rw [Bool.eq_iff_iff]; simp
theorem emp_dec (l : List UInt8) : l.isEmpty = decide (l = []) := by cases l <;> simp
theorem two_nn : true = two (-1) (-1) := by decide
theorem two_n {d : Int} (h : (d == -1) = false) : false = two (-1) d := by rw [← two_neg, h]
theorem two_c {c d : Int} (hc : (c == -1) = false) (h : isReg c = true) (hd : (d == -1) = false) : isReg d = two c d := by
  have := two_reg d hc h
  rw [hd, Bool.false_or] at this
  exact this
theorem two_cn {c : Int} (hc : (c == -1) = false) (h : isReg c = true) : true = two c (-1) := by
  have := two_reg (-1) hc h
  simpa using this
set_option maxHeartbeats 1000000 in
theorem specTwo (op a b c d : Int) (nm : ByteArray) (w : World) : Calls Tryz.prog 116 #[.agg #[.int .i64 op, .int .i64 a, .int .i64 b, .int .i64 c, .int .i64 d, .string nm]] w (GivesBool (two c d) w) := by
  by_cases hc : c = -1
  · subst hc
    have hr := isReg_neg
    by_cases hd : d = -1
    · subst hd
      have H := Lib.hid two_nn
      go_enter Tryz.func116, Tryz.ntmps116
      go_wp2_with (go_at_call 32; (with_reducible refine (specIsReg _ _).mono ?_); rintro e w' ⟨rfl, rfl⟩)
      go_ret
      exact GivesBool.of H.out (by go_grown)
    · have hd' : (d == -1) = false := by simpa using hd
      have H := Lib.hid (two_n hd')
      clear hd
      go_enter Tryz.func116, Tryz.ntmps116
      go_wp2_with (go_at_call 32; (with_reducible refine (specIsReg _ _).mono ?_); rintro e w' ⟨rfl, rfl⟩)
      go_ret
      exact GivesBool.of H.out (by go_grown)
  · have hc' : (c == -1) = false := by simpa using hc
    clear hc
    by_cases h1 : isReg c = true
    · by_cases hd : d = -1
      · subst hd
        have H := Lib.hid (two_cn hc' h1)
        go_enter Tryz.func116, Tryz.ntmps116
        go_wp2_with (go_at_call 32; (with_reducible refine (specIsReg _ _).mono ?_); rintro e w' ⟨rfl, rfl⟩)
        go_ret
        exact GivesBool.of H.out (by go_grown)
      · have hd' : (d == -1) = false := by simpa using hd
        have H := Lib.hid (two_c hc' h1 hd')
        clear hd
        go_enter Tryz.func116, Tryz.ntmps116
        go_wp2_with (go_at_call 32; (with_reducible refine (specIsReg _ _).mono ?_); rintro e w' ⟨rfl, rfl⟩)
        go_ret
        exact GivesBool.of H.out (by go_grown)
    · have h1' : isReg c = false := by simpa using h1
      have H := Lib.hid (two_not (d := d) hc' h1')
      clear h1
      go_enter Tryz.func116, Tryz.ntmps116
      go_wp2_with (go_at_call 32; (with_reducible refine (specIsReg _ _).mono ?_); rintro e w' ⟨rfl, rfl⟩)
      go_ret
      exact GivesBool.of H.out (by go_grown)
set_option maxRecDepth 100000 in
set_option maxHeartbeats 2000000 in
theorem sIs1 (a b c d : Int) (nm : ByteArray) (w : World) (hs : nm.size ≤ 140737488351232) : Calls Tryz.prog 103 #[.agg #[.int .i64 1, .int .i64 a, .int .i64 b, .int .i64 c, .int .i64 d, .string nm]] w (GivesBool (regNum a b c d 0 999999 nm) w) := by
  go_enter Tryz.func103, Tryz.ntmps103
  go_wp2_with (first
  | (go_at_call 32; (with_reducible refine (specIsReg _ _).mono ?_); rintro e w' ⟨rfl, rfl⟩)
  | (go_at_call 35; (with_reducible refine (specInR _ _ _ _).mono ?_); rintro e w' ⟨rfl, rfl⟩)
  | (go_at_call 116; (with_reducible refine (specTwo _ _ _ _ _ _ _).mono ?_); rintro e w1 ⟨rfl, hb⟩
     have c5 : w1.cell? ⟨w.heap.size, 5, none⟩ = some (.string nm) := (hb.cell (p := ⟨w.heap.size, 5, none⟩) (by simp)).trans (by simp [go_sem])
     have B1 : Hid (Below w.heap.size w w1) := Lib.hid (((Below.refl _ _).alloc (Nat.le_refl _) _).trans (hb.mono (by simp)))
     clear hb)
  | (go_at_call 104; (with_reducible refine (specName _ _ hs).mono ?_); rintro e w' ⟨rfl, rfl⟩))
  all_goals (
    go_ret
    refine GivesBool.of ?_ (by first | exact B1.out | go_grown)
    first | (simp [regNum, oneReg, plain, *]; done) | (simp [regNum, oneReg, plain, *]; first | exact beq_dec _ | exact emp_dec _))
set_option maxRecDepth 100000 in
set_option maxHeartbeats 2000000 in
theorem sIs2 (a b c d : Int) (nm : ByteArray) (w : World) (hs : nm.size ≤ 140737488351232) : Calls Tryz.prog 103 #[.agg #[.int .i64 2, .int .i64 a, .int .i64 b, .int .i64 c, .int .i64 d, .string nm]] w (GivesBool (regNum a b c d 0 1 nm) w) := by
  go_enter Tryz.func103, Tryz.ntmps103
  go_wp2_with (first
  | (go_at_call 32; (with_reducible refine (specIsReg _ _).mono ?_); rintro e w' ⟨rfl, rfl⟩)
  | (go_at_call 35; (with_reducible refine (specInR _ _ _ _).mono ?_); rintro e w' ⟨rfl, rfl⟩)
  | (go_at_call 116; (with_reducible refine (specTwo _ _ _ _ _ _ _).mono ?_); rintro e w1 ⟨rfl, hb⟩
     have c5 : w1.cell? ⟨w.heap.size, 5, none⟩ = some (.string nm) := (hb.cell (p := ⟨w.heap.size, 5, none⟩) (by simp)).trans (by simp [go_sem])
     have B1 : Hid (Below w.heap.size w w1) := Lib.hid (((Below.refl _ _).alloc (Nat.le_refl _) _).trans (hb.mono (by simp)))
     clear hb)
  | (go_at_call 104; (with_reducible refine (specName _ _ hs).mono ?_); rintro e w' ⟨rfl, rfl⟩))
  all_goals (
    go_ret
    refine GivesBool.of ?_ (by first | exact B1.out | go_grown)
    first | (simp [regNum, oneReg, plain, *]; done) | (simp [regNum, oneReg, plain, *]; first | exact beq_dec _ | exact emp_dec _))
set_option maxRecDepth 100000 in
set_option maxHeartbeats 2000000 in
theorem sIs3 (a b c d : Int) (nm : ByteArray) (w : World) (hs : nm.size ≤ 140737488351232) : Calls Tryz.prog 103 #[.agg #[.int .i64 3, .int .i64 a, .int .i64 b, .int .i64 c, .int .i64 d, .string nm]] w (GivesBool (regNum a b c d 0 2 nm) w) := by
  go_enter Tryz.func103, Tryz.ntmps103
  go_wp2_with (first
  | (go_at_call 32; (with_reducible refine (specIsReg _ _).mono ?_); rintro e w' ⟨rfl, rfl⟩)
  | (go_at_call 35; (with_reducible refine (specInR _ _ _ _).mono ?_); rintro e w' ⟨rfl, rfl⟩)
  | (go_at_call 116; (with_reducible refine (specTwo _ _ _ _ _ _ _).mono ?_); rintro e w1 ⟨rfl, hb⟩
     have c5 : w1.cell? ⟨w.heap.size, 5, none⟩ = some (.string nm) := (hb.cell (p := ⟨w.heap.size, 5, none⟩) (by simp)).trans (by simp [go_sem])
     have B1 : Hid (Below w.heap.size w w1) := Lib.hid (((Below.refl _ _).alloc (Nat.le_refl _) _).trans (hb.mono (by simp)))
     clear hb)
  | (go_at_call 104; (with_reducible refine (specName _ _ hs).mono ?_); rintro e w' ⟨rfl, rfl⟩))
  all_goals (
    go_ret
    refine GivesBool.of ?_ (by first | exact B1.out | go_grown)
    first | (simp [regNum, oneReg, plain, *]; done) | (simp [regNum, oneReg, plain, *]; first | exact beq_dec _ | exact emp_dec _))
set_option maxRecDepth 100000 in
set_option maxHeartbeats 2000000 in
theorem sIs4 (a b c d : Int) (nm : ByteArray) (w : World) (hs : nm.size ≤ 140737488351232) : Calls Tryz.prog 103 #[.agg #[.int .i64 4, .int .i64 a, .int .i64 b, .int .i64 c, .int .i64 d, .string nm]] w (GivesBool (oneReg a b c d nm) w) := by
  go_enter Tryz.func103, Tryz.ntmps103
  go_wp2_with (first
  | (go_at_call 32; (with_reducible refine (specIsReg _ _).mono ?_); rintro e w' ⟨rfl, rfl⟩)
  | (go_at_call 35; (with_reducible refine (specInR _ _ _ _).mono ?_); rintro e w' ⟨rfl, rfl⟩)
  | (go_at_call 116; (with_reducible refine (specTwo _ _ _ _ _ _ _).mono ?_); rintro e w1 ⟨rfl, hb⟩
     have c5 : w1.cell? ⟨w.heap.size, 5, none⟩ = some (.string nm) := (hb.cell (p := ⟨w.heap.size, 5, none⟩) (by simp)).trans (by simp [go_sem])
     have B1 : Hid (Below w.heap.size w w1) := Lib.hid (((Below.refl _ _).alloc (Nat.le_refl _) _).trans (hb.mono (by simp)))
     clear hb)
  | (go_at_call 104; (with_reducible refine (specName _ _ hs).mono ?_); rintro e w' ⟨rfl, rfl⟩))
  all_goals (
    go_ret
    refine GivesBool.of ?_ (by first | exact B1.out | go_grown)
    first | (simp [regNum, oneReg, plain, *]; done) | (simp [regNum, oneReg, plain, *]; first | exact beq_dec _ | exact emp_dec _))
set_option maxRecDepth 100000 in
set_option maxHeartbeats 2000000 in
theorem sIs5 (a b c d : Int) (nm : ByteArray) (w : World) (hs : nm.size ≤ 140737488351232) : Calls Tryz.prog 103 #[.agg #[.int .i64 5, .int .i64 a, .int .i64 b, .int .i64 c, .int .i64 d, .string nm]] w (GivesBool (addI a b c d nm) w) := by
  go_enter Tryz.func103, Tryz.ntmps103
  go_wp2_with (first
  | (go_at_call 32; (with_reducible refine (specIsReg _ _).mono ?_); rintro e w' ⟨rfl, rfl⟩)
  | (go_at_call 35; (with_reducible refine (specInR _ _ _ _).mono ?_); rintro e w' ⟨rfl, rfl⟩)
  | (go_at_call 116; (with_reducible refine (specTwo _ _ _ _ _ _ _).mono ?_); rintro e w1 ⟨rfl, hb⟩
     have c5 : w1.cell? ⟨w.heap.size, 5, none⟩ = some (.string nm) := (hb.cell (p := ⟨w.heap.size, 5, none⟩) (by simp)).trans (by simp [go_sem])
     have B1 : Hid (Below w.heap.size w w1) := Lib.hid (((Below.refl _ _).alloc (Nat.le_refl _) _).trans (hb.mono (by simp)))
     clear hb)
  | (go_at_call 104; (with_reducible refine (specName _ _ hs).mono ?_); rintro e w' ⟨rfl, rfl⟩))
  all_goals (
    go_ret
    refine GivesBool.of ?_ (by first | exact B1.out | go_grown)
    first | (simp [addI, plain, *]; done) | (simp [addI, plain, *]; first | exact beq_dec _ | exact emp_dec _))
set_option maxRecDepth 100000 in
set_option maxHeartbeats 2000000 in
theorem sIs6 (a b c d : Int) (nm : ByteArray) (w : World) (hs : nm.size ≤ 140737488351232) : Calls Tryz.prog 103 #[.agg #[.int .i64 6, .int .i64 a, .int .i64 b, .int .i64 c, .int .i64 d, .string nm]] w (GivesBool (sendI a b c d nm) w) := by
  go_enter Tryz.func103, Tryz.ntmps103
  go_wp2_with (first
  | (go_at_call 32; (with_reducible refine (specIsReg _ _).mono ?_); rintro e w' ⟨rfl, rfl⟩)
  | (go_at_call 35; (with_reducible refine (specInR _ _ _ _).mono ?_); rintro e w' ⟨rfl, rfl⟩)
  | (go_at_call 116; (with_reducible refine (specTwo _ _ _ _ _ _ _).mono ?_); rintro e w1 ⟨rfl, hb⟩
     have c5 : w1.cell? ⟨w.heap.size, 5, none⟩ = some (.string nm) := (hb.cell (p := ⟨w.heap.size, 5, none⟩) (by simp)).trans (by simp [go_sem])
     have B1 : Hid (Below w.heap.size w w1) := Lib.hid (((Below.refl _ _).alloc (Nat.le_refl _) _).trans (hb.mono (by simp)))
     clear hb)
  | (go_at_call 104; (with_reducible refine (specName _ _ hs).mono ?_); rintro e w' ⟨rfl, rfl⟩))
  all_goals (
    go_ret
    refine GivesBool.of ?_ (by first | exact B1.out | go_grown)
    first | (simp [sendI, plain, *]; done) | (simp [sendI, plain, *]; first | exact beq_dec _ | exact emp_dec _))
set_option maxRecDepth 100000 in
set_option maxHeartbeats 2000000 in
theorem sIs7 (a b c d : Int) (nm : ByteArray) (w : World) (hs : nm.size ≤ 140737488351232) : Calls Tryz.prog 103 #[.agg #[.int .i64 7, .int .i64 a, .int .i64 b, .int .i64 c, .int .i64 d, .string nm]] w (GivesBool (newI a b c d nm) w) := by
  go_enter Tryz.func103, Tryz.ntmps103
  go_wp2_with (first
  | (go_at_call 32; (with_reducible refine (specIsReg _ _).mono ?_); rintro e w' ⟨rfl, rfl⟩)
  | (go_at_call 35; (with_reducible refine (specInR _ _ _ _).mono ?_); rintro e w' ⟨rfl, rfl⟩)
  | (go_at_call 116; (with_reducible refine (specTwo _ _ _ _ _ _ _).mono ?_); rintro e w1 ⟨rfl, hb⟩
     have c5 : w1.cell? ⟨w.heap.size, 5, none⟩ = some (.string nm) := (hb.cell (p := ⟨w.heap.size, 5, none⟩) (by simp)).trans (by simp [go_sem])
     have B1 : Hid (Below w.heap.size w w1) := Lib.hid (((Below.refl _ _).alloc (Nat.le_refl _) _).trans (hb.mono (by simp)))
     clear hb)
  | (go_at_call 104; (with_reducible refine (specName _ _ hs).mono ?_); rintro e w' ⟨rfl, rfl⟩))
  all_goals (
    go_ret
    refine GivesBool.of ?_ (by first | exact B1.out | go_grown)
    first | (simp [newI, plain, *]; done) | (simp [newI, plain, *]; first | exact beq_dec _ | exact emp_dec _))
set_option maxRecDepth 100000 in
set_option maxHeartbeats 2000000 in
theorem sIs8 (a b c d : Int) (nm : ByteArray) (w : World) (hs : nm.size ≤ 140737488351232) : Calls Tryz.prog 103 #[.agg #[.int .i64 8, .int .i64 a, .int .i64 b, .int .i64 c, .int .i64 d, .string nm]] w (GivesBool (setI a b c d nm) w) := by
  go_enter Tryz.func103, Tryz.ntmps103
  go_wp2_with (first
  | (go_at_call 32; (with_reducible refine (specIsReg _ _).mono ?_); rintro e w' ⟨rfl, rfl⟩)
  | (go_at_call 35; (with_reducible refine (specInR _ _ _ _).mono ?_); rintro e w' ⟨rfl, rfl⟩)
  | (go_at_call 116; (with_reducible refine (specTwo _ _ _ _ _ _ _).mono ?_); rintro e w1 ⟨rfl, hb⟩
     have c5 : w1.cell? ⟨w.heap.size, 5, none⟩ = some (.string nm) := (hb.cell (p := ⟨w.heap.size, 5, none⟩) (by simp)).trans (by simp [go_sem])
     have B1 : Hid (Below w.heap.size w w1) := Lib.hid (((Below.refl _ _).alloc (Nat.le_refl _) _).trans (hb.mono (by simp)))
     clear hb)
  | (go_at_call 104; (with_reducible refine (specName _ _ hs).mono ?_); rintro e w' ⟨rfl, rfl⟩))
  all_goals (
    go_ret
    refine GivesBool.of ?_ (by first | exact B1.out | go_grown)
    first | (simp [setI, plain, *]; done) | (simp [setI, plain, *]; first | exact beq_dec _ | exact emp_dec _))
set_option maxRecDepth 100000 in
set_option maxHeartbeats 2000000 in
theorem sIs9 (a b c d : Int) (nm : ByteArray) (w : World) (hs : nm.size ≤ 140737488351232) : Calls Tryz.prog 103 #[.agg #[.int .i64 9, .int .i64 a, .int .i64 b, .int .i64 c, .int .i64 d, .string nm]] w (GivesBool (regNum a b c d 1 12 nm) w) := by
  go_enter Tryz.func103, Tryz.ntmps103
  go_wp2_with (first
  | (go_at_call 32; (with_reducible refine (specIsReg _ _).mono ?_); rintro e w' ⟨rfl, rfl⟩)
  | (go_at_call 35; (with_reducible refine (specInR _ _ _ _).mono ?_); rintro e w' ⟨rfl, rfl⟩)
  | (go_at_call 116; (with_reducible refine (specTwo _ _ _ _ _ _ _).mono ?_); rintro e w1 ⟨rfl, hb⟩
     have c5 : w1.cell? ⟨w.heap.size, 5, none⟩ = some (.string nm) := (hb.cell (p := ⟨w.heap.size, 5, none⟩) (by simp)).trans (by simp [go_sem])
     have B1 : Hid (Below w.heap.size w w1) := Lib.hid (((Below.refl _ _).alloc (Nat.le_refl _) _).trans (hb.mono (by simp)))
     clear hb)
  | (go_at_call 104; (with_reducible refine (specName _ _ hs).mono ?_); rintro e w' ⟨rfl, rfl⟩))
  all_goals (
    go_ret
    refine GivesBool.of ?_ (by first | exact B1.out | go_grown)
    first | (simp [regNum, oneReg, plain, *]; done) | (simp [regNum, oneReg, plain, *]; first | exact beq_dec _ | exact emp_dec _))
set_option maxRecDepth 100000 in
set_option maxHeartbeats 2000000 in
theorem sIs10 (a b c d : Int) (nm : ByteArray) (w : World) (hs : nm.size ≤ 140737488351232) : Calls Tryz.prog 103 #[.agg #[.int .i64 10, .int .i64 a, .int .i64 b, .int .i64 c, .int .i64 d, .string nm]] w (GivesBool (oneReg a b c d nm) w) := by
  go_enter Tryz.func103, Tryz.ntmps103
  go_wp2_with (first
  | (go_at_call 32; (with_reducible refine (specIsReg _ _).mono ?_); rintro e w' ⟨rfl, rfl⟩)
  | (go_at_call 35; (with_reducible refine (specInR _ _ _ _).mono ?_); rintro e w' ⟨rfl, rfl⟩)
  | (go_at_call 116; (with_reducible refine (specTwo _ _ _ _ _ _ _).mono ?_); rintro e w1 ⟨rfl, hb⟩
     have c5 : w1.cell? ⟨w.heap.size, 5, none⟩ = some (.string nm) := (hb.cell (p := ⟨w.heap.size, 5, none⟩) (by simp)).trans (by simp [go_sem])
     have B1 : Hid (Below w.heap.size w w1) := Lib.hid (((Below.refl _ _).alloc (Nat.le_refl _) _).trans (hb.mono (by simp)))
     clear hb)
  | (go_at_call 104; (with_reducible refine (specName _ _ hs).mono ?_); rintro e w' ⟨rfl, rfl⟩))
  all_goals (
    go_ret
    refine GivesBool.of ?_ (by first | exact B1.out | go_grown)
    first | (simp [regNum, oneReg, plain, *]; done) | (simp [regNum, oneReg, plain, *]; first | exact beq_dec _ | exact emp_dec _))
set_option maxRecDepth 100000 in
set_option maxHeartbeats 2000000 in
theorem sIs0 (op a b c d : Int) (nm : ByteArray) (w : World) (hs : nm.size ≤ 140737488351232) (h : ¬ (1 ≤ op ∧ op ≤ 10)) : Calls Tryz.prog 103 #[.agg #[.int .i64 op, .int .i64 a, .int .i64 b, .int .i64 c, .int .i64 d, .string nm]] w (GivesBool (false) w) := by
  have n1 : (op == 1) = false := by simp; omega
  have n2 : (op == 2) = false := by simp; omega
  have n3 : (op == 3) = false := by simp; omega
  have n4 : (op == 4) = false := by simp; omega
  have n5 : (op == 5) = false := by simp; omega
  have n6 : (op == 6) = false := by simp; omega
  have n7 : (op == 7) = false := by simp; omega
  have n8 : (op == 8) = false := by simp; omega
  have n9 : (op == 9) = false := by simp; omega
  have n10 : (op == 10) = false := by simp; omega
  clear h
  go_enter Tryz.func103, Tryz.ntmps103
  go_wp2_with (first
  | (go_at_call 32; (with_reducible refine (specIsReg _ _).mono ?_); rintro e w' ⟨rfl, rfl⟩)
  | (go_at_call 35; (with_reducible refine (specInR _ _ _ _).mono ?_); rintro e w' ⟨rfl, rfl⟩)
  | (go_at_call 116; (with_reducible refine (specTwo _ _ _ _ _ _ _).mono ?_); rintro e w1 ⟨rfl, hb⟩
     have c5 : w1.cell? ⟨w.heap.size, 5, none⟩ = some (.string nm) := (hb.cell (p := ⟨w.heap.size, 5, none⟩) (by simp)).trans (by simp [go_sem])
     have B1 : Hid (Below w.heap.size w w1) := Lib.hid (((Below.refl _ _).alloc (Nat.le_refl _) _).trans (hb.mono (by simp)))
     clear hb)
  | (go_at_call 104; (with_reducible refine (specName _ _ hs).mono ?_); rintro e w' ⟨rfl, rfl⟩))
  all_goals (
    go_ret
    refine GivesBool.of ?_ (by first | exact B1.out | go_grown)
    first | (simp [*]; done) | (simp [*]; first | exact beq_dec _ | exact emp_dec _))
theorem specIs (x : I) (w : World) (hs : x.name.size ≤ 140737488351232) : Calls Tryz.prog 103 #[.agg #[.int .i64 x.op, .int .i64 x.a, .int .i64 x.b, .int .i64 x.c, .int .i64 x.d, .string x.name]] w (GivesBool (isI x) w) := by
  obtain ⟨op, a, b, c, d, nm⟩ := x
  rcases opCases op with rfl | rfl | rfl | rfl | rfl | rfl | rfl | rfl | rfl | rfl | h
  · exact sIs1 a b c d nm w hs
  · exact sIs2 a b c d nm w hs
  · exact sIs3 a b c d nm w hs
  · exact sIs4 a b c d nm w hs
  · exact sIs5 a b c d nm w hs
  · exact sIs6 a b c d nm w hs
  · exact sIs7 a b c d nm w hs
  · exact sIs8 a b c d nm w hs
  · exact sIs9 a b c d nm w hs
  · exact sIs10 a b c d nm w hs
  · have e : isI ⟨op, a, b, c, d, nm⟩ = false := by
      unfold isI
      simp only []
      repeat (rw [if_neg (by omega)])
    rw [e]
    exact sIs0 op a b c d nm w hs h
end Go.Proofs.YtgibhbplgiejpaaGreat
