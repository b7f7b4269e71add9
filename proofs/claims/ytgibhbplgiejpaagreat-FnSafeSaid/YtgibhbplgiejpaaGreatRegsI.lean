/- The program's RegsOf. -/
import Derived.Test.YtgibhbplgiejpaaGreatRegs
namespace Go.Proofs.YtgibhbplgiejpaaGreat
open Go.RowKit
set_option linter.unusedVariables false
/-- What the first k of c and d give. -/
def upto2 (c d : Int) (k : Nat) : List Int := match k with
  | 0 => []
  | 1 => if c = -1 then [] else [c]
  | _ => passed c d
theorem upto2_one {c d : Int} (h : c = -1) : upto2 c d 1 = [] := by simp [upto2, h]
theorem upto2_one' {c d : Int} (h : ¬ c = -1) : upto2 c d 1 = [c] := by simp [upto2, h]
theorem upto2_two {c d : Int} (h : d = -1) : upto2 c d 2 = upto2 c d 1 := by simp [upto2, passed, h]
theorem upto2_two' {c d : Int} (h : ¬ d = -1) : upto2 c d 2 = upto2 c d 1 ++ [d] := by simp [upto2, passed, h]
theorem passed_len (c d : Int) : (passed c d).length ≤ 2 := by
  unfold passed
  (repeat' split) <;> simp
theorem upto2_len (c d : Int) (k : Nat) : (upto2 c d k).length ≤ 2 := by
  unfold upto2 passed
  split <;> (repeat' split) <;> simp
set_option maxHeartbeats 2000000 in
theorem rPassed (op a b c d : Int) (nm : ByteArray) (w : World) : Calls Tryz.prog 70 #[.agg #[.int .i64 op, .int .i64 a, .int .i64 b, .int .i64 c, .int .i64 d, .string nm]] w (Fresh .i64 3 (passed c d) w) := by
  obtain ⟨i0, hi, hz0, hz1, hz2⟩ := info_parts infoI
  have ix0 : ∀ w, (Instr.index 107 (.agg #[.int .i64 c, .int .i64 d]) (.int .i64 0)).run Tryz.prog w = .ok (.int .i64 c) w := fun _ => by kernel_rfl
  have ix1 : ∀ w, (Instr.index 107 (.agg #[.int .i64 c, .int .i64 d]) (.int .i64 1)).run Tryz.prog w = .ok (.int .i64 d) w := fun _ => by kernel_rfl
  have C := Lib.hid (Col.start w op a b c d nm)
  go_enter Tryz.func70, Tryz.ntmps70
  go_wp2_with fail
  go_loopw [3, 12] (fun sv iv wr => ∃ (A : Option Addr) (n cap k : Nat), sv = .slice A n cap ∧ iv = .int .i64 k ∧ k ≤ 2 ∧ Col w op a b c d nm (upto2 c d k) wr A n cap) (fun _ iv _ => 2 - (intOf iv).toNat)
  case atStart => exact ⟨_, _, _, 0, rfl, rfl, by omega, C.out⟩
  case round =>
    obtain ⟨A, n, cap, k, rfl, rfl, hk, hC⟩ := hrel
    have hn : n ≤ 2 := by have h1 := hC.1.1; have h2 := upto2_len c d k; omega
    clear C
    have C := Lib.hid hC
    clear hC
    rcases (by omega : k = 0 ∨ k = 1 ∨ k = 2) with rfl | rfl | rfl
    · by_cases hc : c = -1
      · have HN : Hid (Col w op a b c d nm (upto2 c d 1) wr A n cap) := Lib.hid (by rw [upto2_one hc]; exact C.out)
        subst hc
        go_wp2_with fail
        go_roundw
        case rel => exact ⟨A, n, cap, 1, rfl, rfl, by omega, HN.out⟩
        case measure => simp [intOf]
      · have hc' : (c == -1) = false := by simpa using hc
        have hc2 : (c != -1) = true := by simpa using hc
        have HE := Lib.hid (upto2_one' (d := d) hc)
        clear hc
        go_wp2_with (at_builtin; refine wpList_append_rz _ rfl _ _ 29 rfl .i64 3 i0 0 8 Tryz.underlying29 hi hz0 hz1 hz2 (w.heap.size + 1) _ _ _ _ _ rfl (C.out.1.alloc _) _ 1 1 [_] rfl (by first | exact Rz.one _ _ _ _ | exact Rz.oneAt (by simp)) ?h63 ?hby ?hlo ?_; (case h63 => (unfold maxLen; omega)); (case hby => omega); (case hlo => (have h := C.out.2.2.size; first | (simp; done) | (simp; omega))); intro A1 c1 w1 hO hS; replace C := Lib.hid (C.out.next _ hO hS); clear hO hS)
        have HN : Hid (Col w op a b c d nm (upto2 c d 1) w1 A1 (n + 1) c1) := Lib.hid (by rw [HE.out]; exact C.out)
        go_roundw
        case rel => exact ⟨A1, n + 1, c1, 1, rfl, rfl, by omega, HN.out⟩
        case measure => simp [intOf]
    · by_cases hd : d = -1
      · have HN : Hid (Col w op a b c d nm (upto2 c d 2) wr A n cap) := Lib.hid (by rw [upto2_two hd]; exact C.out)
        subst hd
        go_wp2_with fail
        go_roundw
        case rel => exact ⟨A, n, cap, 2, rfl, rfl, by omega, HN.out⟩
        case measure => simp [intOf]
      · have hd' : (d == -1) = false := by simpa using hd
        have hd2 : (d != -1) = true := by simpa using hd
        have HE := Lib.hid (upto2_two' (c := c) hd)
        clear hd
        go_wp2_with (at_builtin; refine wpList_append_rz _ rfl _ _ 29 rfl .i64 3 i0 0 8 Tryz.underlying29 hi hz0 hz1 hz2 (w.heap.size + 1) _ _ _ _ _ rfl (C.out.1.alloc _) _ 1 1 [_] rfl (by first | exact Rz.one _ _ _ _ | exact Rz.oneAt (by simp)) ?h63 ?hby ?hlo ?_; (case h63 => (unfold maxLen; omega)); (case hby => omega); (case hlo => (have h := C.out.2.2.size; first | (simp; done) | (simp; omega))); intro A1 c1 w1 hO hS; replace C := Lib.hid (C.out.next _ hO hS); clear hO hS)
        have HN : Hid (Col w op a b c d nm (upto2 c d 2) w1 A1 (n + 1) c1) := Lib.hid (by rw [HE.out]; exact C.out)
        go_roundw
        case rel => exact ⟨A1, n + 1, c1, 2, rfl, rfl, by omega, HN.out⟩
        case measure => simp [intOf]
    · go_wp2_with fail
      go_ret
      exact C.out.ret rfl
set_option maxRecDepth 100000 in
set_option maxHeartbeats 2000000 in
theorem rBPassed (op a b c d : Int) (nm : ByteArray) (w : World) : Calls Tryz.prog 68 #[.agg #[.int .i64 op, .int .i64 a, .int .i64 b, .int .i64 c, .int .i64 d, .string nm]] w (Fresh .i64 3 (b :: passed c d) w) := by
  obtain ⟨i0, hi, hz0, hz1, hz2⟩ := info_parts infoI
  have hl := passed_len c d
  have X0 : Hid (Boxed w op a b c d nm (w.alloc (.cells #[.int .i64 op, .int .i64 a, .int .i64 b, .int .i64 c, .int .i64 d, .string nm] 32)).drew) := Lib.hid (Boxed.mk_ w op a b c d nm _).drew
  go_enter Tryz.func68, Tryz.ntmps68
  go_wp2_with fail
  go_region_held3 (fun w' => w'.cell? ⟨w.heap.size, 0, none⟩ = some (.int .i64 op) ∧ w'.cell? ⟨w.heap.size, 1, none⟩ = some (.int .i64 a) ∧ w'.cell? ⟨w.heap.size, 2, none⟩ = some (.int .i64 b) ∧ w'.cell? ⟨w.heap.size, 3, none⟩ = some (.int .i64 c) ∧ w'.cell? ⟨w.heap.size, 4, none⟩ = some (.int .i64 d) ∧ w'.cell? ⟨w.heap.size, 5, none⟩ = some (.string nm))
    (first | with_reducible exact X0.out.six | with_reducible exact X1.out.six | with_reducible exact X2.out.six | with_reducible exact X3.out.six)
    (first
    | (go_at_call 72; (with_reducible refine (rB _ _ _ _ _ _ _).mono ?_); rintro e w5 ⟨A1, n1, c1, rfl, hO1, hb5⟩
       have X1 := Lib.hid (X0.out.below hb5)
       have O1 := Lib.hid hO1
       have hn1 : n1 = 1 := hO1.1.symm
       subst hn1
       have hl1 := X0.out.2.size
       clear hb5 hO1)
    | (go_at_call 70; (with_reducible refine (rPassed _ _ _ _ _ _ _).mono ?_); rintro e w6 ⟨A2, n2, c2, rfl, hO2, hb6⟩
       have X2 := Lib.hid (X1.out.below hb6)
       have O2 := Lib.hid hO2.rz
       have hn2 : n2 ≤ 2 := by have := hO2.1; omega
       have O1' := Lib.hid (O1.out.below hb6)
       have hs2 := hb6.size
       clear hb6 hO2 O1)
    | (refine step_append_rz _ rfl _ _ 29 rfl .i64 3 i0 0 8 Tryz.underlying29 hi hz0 hz1 hz2 _ _ A1 1 c1 _ rfl O1'.out A2 n2 c2 _ rfl O2.out ?h63 ?hby ?hlo ?hK
       case h63 => unfold maxLen; omega
       case hby => omega
       case hlo => have h1 := X1.out.1.1; simp; omega
       intro A3 c3 w3 hO3 hS3
       have X3 : Hid (Boxed w op a b c d nm w3) := Lib.hid (X2.out.step hS3 (by simp))
       have O3 := Lib.hid hO3
       clear hO3 hS3))
  all_goals (
    go_wp2_with fail
    go_ret
    exact Fresh.ret (O3.out.less (by simp)) X3.out.2)
set_option maxHeartbeats 1000000 in
theorem regs1 (a b c d : Int) (nm : ByteArray) (w : World) : Calls Tryz.prog 9 #[.agg #[.int .i64 1, .int .i64 a, .int .i64 b, .int .i64 c, .int .i64 d, .string nm]] w (Fresh .i64 3 [] w) := by
  have X0 : Hid (Boxed w 1 a b c d nm (w.alloc (.cells #[.int .i64 1, .int .i64 a, .int .i64 b, .int .i64 c, .int .i64 d, .string nm] 32)).drew) := Lib.hid (Boxed.mk_ w 1 a b c d nm _).drew
  have A1 := fieldReads
  go_enter Tryz.func9, Tryz.ntmps9
  go_wp2_with fail
  go_region_held3 (fun w' => w'.cell? ⟨w.heap.size, 0, none⟩ = some (.int .i64 1) ∧ w'.cell? ⟨w.heap.size, 1, none⟩ = some (.int .i64 a) ∧ w'.cell? ⟨w.heap.size, 2, none⟩ = some (.int .i64 b) ∧ w'.cell? ⟨w.heap.size, 3, none⟩ = some (.int .i64 c) ∧ w'.cell? ⟨w.heap.size, 4, none⟩ = some (.int .i64 d) ∧ w'.cell? ⟨w.heap.size, 5, none⟩ = some (.string nm))
    (first | with_reducible exact X0.out.six | with_reducible exact X1.out.six | with_reducible exact X2.out.six)
    (first
    | (go_at_call 36; (with_reducible refine (form1 _).mono ?_); rintro e w5 ⟨rfl, hb5⟩
       have X1 := Lib.hid (X0.out.below hb5)
       clear hb5)
    | (go_at_call 60; (with_reducible refine (rNone _ _ _ _ _ _ _).mono ?_); rintro e w6 ⟨A2, n2, c2, rfl, hO2, hb6⟩
       have X2 := Lib.hid (X1.out.below hb6)
       have hl := X1.out.2.size
       have O2 := Lib.hid hO2
       clear hb6 hO2))
  all_goals (
    go_wp2_with fail
    go_ret
    exact Fresh.ret (O2.out.less hl) X2.out.2)
set_option maxHeartbeats 1000000 in
theorem regs2 (a b c d : Int) (nm : ByteArray) (w : World) : Calls Tryz.prog 9 #[.agg #[.int .i64 2, .int .i64 a, .int .i64 b, .int .i64 c, .int .i64 d, .string nm]] w (Fresh .i64 3 [] w) := by
  have X0 : Hid (Boxed w 2 a b c d nm (w.alloc (.cells #[.int .i64 2, .int .i64 a, .int .i64 b, .int .i64 c, .int .i64 d, .string nm] 32)).drew) := Lib.hid (Boxed.mk_ w 2 a b c d nm _).drew
  have A1 := fieldReads
  go_enter Tryz.func9, Tryz.ntmps9
  go_wp2_with fail
  go_region_held3 (fun w' => w'.cell? ⟨w.heap.size, 0, none⟩ = some (.int .i64 2) ∧ w'.cell? ⟨w.heap.size, 1, none⟩ = some (.int .i64 a) ∧ w'.cell? ⟨w.heap.size, 2, none⟩ = some (.int .i64 b) ∧ w'.cell? ⟨w.heap.size, 3, none⟩ = some (.int .i64 c) ∧ w'.cell? ⟨w.heap.size, 4, none⟩ = some (.int .i64 d) ∧ w'.cell? ⟨w.heap.size, 5, none⟩ = some (.string nm))
    (first | with_reducible exact X0.out.six | with_reducible exact X1.out.six | with_reducible exact X2.out.six)
    (first
    | (go_at_call 36; (with_reducible refine (form2 _).mono ?_); rintro e w5 ⟨rfl, hb5⟩
       have X1 := Lib.hid (X0.out.below hb5)
       clear hb5)
    | (go_at_call 60; (with_reducible refine (rNone _ _ _ _ _ _ _).mono ?_); rintro e w6 ⟨A2, n2, c2, rfl, hO2, hb6⟩
       have X2 := Lib.hid (X1.out.below hb6)
       have hl := X1.out.2.size
       have O2 := Lib.hid hO2
       clear hb6 hO2))
  all_goals (
    go_wp2_with fail
    go_ret
    exact Fresh.ret (O2.out.less hl) X2.out.2)
set_option maxHeartbeats 1000000 in
theorem regs3 (a b c d : Int) (nm : ByteArray) (w : World) : Calls Tryz.prog 9 #[.agg #[.int .i64 3, .int .i64 a, .int .i64 b, .int .i64 c, .int .i64 d, .string nm]] w (Fresh .i64 3 [] w) := by
  have X0 : Hid (Boxed w 3 a b c d nm (w.alloc (.cells #[.int .i64 3, .int .i64 a, .int .i64 b, .int .i64 c, .int .i64 d, .string nm] 32)).drew) := Lib.hid (Boxed.mk_ w 3 a b c d nm _).drew
  have A1 := fieldReads
  go_enter Tryz.func9, Tryz.ntmps9
  go_wp2_with fail
  go_region_held3 (fun w' => w'.cell? ⟨w.heap.size, 0, none⟩ = some (.int .i64 3) ∧ w'.cell? ⟨w.heap.size, 1, none⟩ = some (.int .i64 a) ∧ w'.cell? ⟨w.heap.size, 2, none⟩ = some (.int .i64 b) ∧ w'.cell? ⟨w.heap.size, 3, none⟩ = some (.int .i64 c) ∧ w'.cell? ⟨w.heap.size, 4, none⟩ = some (.int .i64 d) ∧ w'.cell? ⟨w.heap.size, 5, none⟩ = some (.string nm))
    (first | with_reducible exact X0.out.six | with_reducible exact X1.out.six | with_reducible exact X2.out.six)
    (first
    | (go_at_call 36; (with_reducible refine (form3 _).mono ?_); rintro e w5 ⟨rfl, hb5⟩
       have X1 := Lib.hid (X0.out.below hb5)
       clear hb5)
    | (go_at_call 60; (with_reducible refine (rNone _ _ _ _ _ _ _).mono ?_); rintro e w6 ⟨A2, n2, c2, rfl, hO2, hb6⟩
       have X2 := Lib.hid (X1.out.below hb6)
       have hl := X1.out.2.size
       have O2 := Lib.hid hO2
       clear hb6 hO2))
  all_goals (
    go_wp2_with fail
    go_ret
    exact Fresh.ret (O2.out.less hl) X2.out.2)
set_option maxHeartbeats 1000000 in
theorem regs4 (a b c d : Int) (nm : ByteArray) (w : World) : Calls Tryz.prog 9 #[.agg #[.int .i64 4, .int .i64 a, .int .i64 b, .int .i64 c, .int .i64 d, .string nm]] w (Fresh .i64 3 [] w) := by
  have X0 : Hid (Boxed w 4 a b c d nm (w.alloc (.cells #[.int .i64 4, .int .i64 a, .int .i64 b, .int .i64 c, .int .i64 d, .string nm] 32)).drew) := Lib.hid (Boxed.mk_ w 4 a b c d nm _).drew
  have A1 := fieldReads
  go_enter Tryz.func9, Tryz.ntmps9
  go_wp2_with fail
  go_region_held3 (fun w' => w'.cell? ⟨w.heap.size, 0, none⟩ = some (.int .i64 4) ∧ w'.cell? ⟨w.heap.size, 1, none⟩ = some (.int .i64 a) ∧ w'.cell? ⟨w.heap.size, 2, none⟩ = some (.int .i64 b) ∧ w'.cell? ⟨w.heap.size, 3, none⟩ = some (.int .i64 c) ∧ w'.cell? ⟨w.heap.size, 4, none⟩ = some (.int .i64 d) ∧ w'.cell? ⟨w.heap.size, 5, none⟩ = some (.string nm))
    (first | with_reducible exact X0.out.six | with_reducible exact X1.out.six | with_reducible exact X2.out.six)
    (first
    | (go_at_call 36; (with_reducible refine (form4 _).mono ?_); rintro e w5 ⟨rfl, hb5⟩
       have X1 := Lib.hid (X0.out.below hb5)
       clear hb5)
    | (go_at_call 60; (with_reducible refine (rNone _ _ _ _ _ _ _).mono ?_); rintro e w6 ⟨A2, n2, c2, rfl, hO2, hb6⟩
       have X2 := Lib.hid (X1.out.below hb6)
       have hl := X1.out.2.size
       have O2 := Lib.hid hO2
       clear hb6 hO2))
  all_goals (
    go_wp2_with fail
    go_ret
    exact Fresh.ret (O2.out.less hl) X2.out.2)
set_option maxHeartbeats 1000000 in
theorem regs5 (a b c d : Int) (nm : ByteArray) (w : World) : Calls Tryz.prog 9 #[.agg #[.int .i64 5, .int .i64 a, .int .i64 b, .int .i64 c, .int .i64 d, .string nm]] w (Fresh .i64 3 [b, c] w) := by
  have X0 : Hid (Boxed w 5 a b c d nm (w.alloc (.cells #[.int .i64 5, .int .i64 a, .int .i64 b, .int .i64 c, .int .i64 d, .string nm] 32)).drew) := Lib.hid (Boxed.mk_ w 5 a b c d nm _).drew
  have A1 := fieldReads
  go_enter Tryz.func9, Tryz.ntmps9
  go_wp2_with fail
  go_region_held3 (fun w' => w'.cell? ⟨w.heap.size, 0, none⟩ = some (.int .i64 5) ∧ w'.cell? ⟨w.heap.size, 1, none⟩ = some (.int .i64 a) ∧ w'.cell? ⟨w.heap.size, 2, none⟩ = some (.int .i64 b) ∧ w'.cell? ⟨w.heap.size, 3, none⟩ = some (.int .i64 c) ∧ w'.cell? ⟨w.heap.size, 4, none⟩ = some (.int .i64 d) ∧ w'.cell? ⟨w.heap.size, 5, none⟩ = some (.string nm))
    (first | with_reducible exact X0.out.six | with_reducible exact X1.out.six | with_reducible exact X2.out.six)
    (first
    | (go_at_call 36; (with_reducible refine (form5 _).mono ?_); rintro e w5 ⟨rfl, hb5⟩
       have X1 := Lib.hid (X0.out.below hb5)
       clear hb5)
    | (go_at_call 66; (with_reducible refine (rBC _ _ _ _ _ _ _).mono ?_); rintro e w6 ⟨A2, n2, c2, rfl, hO2, hb6⟩
       have X2 := Lib.hid (X1.out.below hb6)
       have hl := X1.out.2.size
       have O2 := Lib.hid hO2
       clear hb6 hO2))
  all_goals (
    go_wp2_with fail
    go_ret
    exact Fresh.ret (O2.out.less hl) X2.out.2)
set_option maxHeartbeats 1000000 in
theorem regs6 (a b c d : Int) (nm : ByteArray) (w : World) : Calls Tryz.prog 9 #[.agg #[.int .i64 6, .int .i64 a, .int .i64 b, .int .i64 c, .int .i64 d, .string nm]] w (Fresh .i64 3 (b :: passed c d) w) := by
  have X0 : Hid (Boxed w 6 a b c d nm (w.alloc (.cells #[.int .i64 6, .int .i64 a, .int .i64 b, .int .i64 c, .int .i64 d, .string nm] 32)).drew) := Lib.hid (Boxed.mk_ w 6 a b c d nm _).drew
  have A1 := fieldReads
  go_enter Tryz.func9, Tryz.ntmps9
  go_wp2_with fail
  go_region_held3 (fun w' => w'.cell? ⟨w.heap.size, 0, none⟩ = some (.int .i64 6) ∧ w'.cell? ⟨w.heap.size, 1, none⟩ = some (.int .i64 a) ∧ w'.cell? ⟨w.heap.size, 2, none⟩ = some (.int .i64 b) ∧ w'.cell? ⟨w.heap.size, 3, none⟩ = some (.int .i64 c) ∧ w'.cell? ⟨w.heap.size, 4, none⟩ = some (.int .i64 d) ∧ w'.cell? ⟨w.heap.size, 5, none⟩ = some (.string nm))
    (first | with_reducible exact X0.out.six | with_reducible exact X1.out.six | with_reducible exact X2.out.six)
    (first
    | (go_at_call 36; (with_reducible refine (form6 _).mono ?_); rintro e w5 ⟨rfl, hb5⟩
       have X1 := Lib.hid (X0.out.below hb5)
       clear hb5)
    | (go_at_call 68; (with_reducible refine (rBPassed _ _ _ _ _ _ _).mono ?_); rintro e w6 ⟨A2, n2, c2, rfl, hO2, hb6⟩
       have X2 := Lib.hid (X1.out.below hb6)
       have hl := X1.out.2.size
       have O2 := Lib.hid hO2
       clear hb6 hO2))
  all_goals (
    go_wp2_with fail
    go_ret
    exact Fresh.ret (O2.out.less hl) X2.out.2)
set_option maxHeartbeats 1000000 in
theorem regs7 (a b c d : Int) (nm : ByteArray) (w : World) : Calls Tryz.prog 9 #[.agg #[.int .i64 7, .int .i64 a, .int .i64 b, .int .i64 c, .int .i64 d, .string nm]] w (Fresh .i64 3 (passed c d) w) := by
  have X0 : Hid (Boxed w 7 a b c d nm (w.alloc (.cells #[.int .i64 7, .int .i64 a, .int .i64 b, .int .i64 c, .int .i64 d, .string nm] 32)).drew) := Lib.hid (Boxed.mk_ w 7 a b c d nm _).drew
  have A1 := fieldReads
  go_enter Tryz.func9, Tryz.ntmps9
  go_wp2_with fail
  go_region_held3 (fun w' => w'.cell? ⟨w.heap.size, 0, none⟩ = some (.int .i64 7) ∧ w'.cell? ⟨w.heap.size, 1, none⟩ = some (.int .i64 a) ∧ w'.cell? ⟨w.heap.size, 2, none⟩ = some (.int .i64 b) ∧ w'.cell? ⟨w.heap.size, 3, none⟩ = some (.int .i64 c) ∧ w'.cell? ⟨w.heap.size, 4, none⟩ = some (.int .i64 d) ∧ w'.cell? ⟨w.heap.size, 5, none⟩ = some (.string nm))
    (first | with_reducible exact X0.out.six | with_reducible exact X1.out.six | with_reducible exact X2.out.six)
    (first
    | (go_at_call 36; (with_reducible refine (form7 _).mono ?_); rintro e w5 ⟨rfl, hb5⟩
       have X1 := Lib.hid (X0.out.below hb5)
       clear hb5)
    | (go_at_call 70; (with_reducible refine (rPassed _ _ _ _ _ _ _).mono ?_); rintro e w6 ⟨A2, n2, c2, rfl, hO2, hb6⟩
       have X2 := Lib.hid (X1.out.below hb6)
       have hl := X1.out.2.size
       have O2 := Lib.hid hO2
       clear hb6 hO2))
  all_goals (
    go_wp2_with fail
    go_ret
    exact Fresh.ret (O2.out.less hl) X2.out.2)
set_option maxHeartbeats 1000000 in
theorem regs8 (a b c d : Int) (nm : ByteArray) (w : World) : Calls Tryz.prog 9 #[.agg #[.int .i64 8, .int .i64 a, .int .i64 b, .int .i64 c, .int .i64 d, .string nm]] w (Fresh .i64 3 [b] w) := by
  have X0 : Hid (Boxed w 8 a b c d nm (w.alloc (.cells #[.int .i64 8, .int .i64 a, .int .i64 b, .int .i64 c, .int .i64 d, .string nm] 32)).drew) := Lib.hid (Boxed.mk_ w 8 a b c d nm _).drew
  have A1 := fieldReads
  go_enter Tryz.func9, Tryz.ntmps9
  go_wp2_with fail
  go_region_held3 (fun w' => w'.cell? ⟨w.heap.size, 0, none⟩ = some (.int .i64 8) ∧ w'.cell? ⟨w.heap.size, 1, none⟩ = some (.int .i64 a) ∧ w'.cell? ⟨w.heap.size, 2, none⟩ = some (.int .i64 b) ∧ w'.cell? ⟨w.heap.size, 3, none⟩ = some (.int .i64 c) ∧ w'.cell? ⟨w.heap.size, 4, none⟩ = some (.int .i64 d) ∧ w'.cell? ⟨w.heap.size, 5, none⟩ = some (.string nm))
    (first | with_reducible exact X0.out.six | with_reducible exact X1.out.six | with_reducible exact X2.out.six)
    (first
    | (go_at_call 36; (with_reducible refine (form8 _).mono ?_); rintro e w5 ⟨rfl, hb5⟩
       have X1 := Lib.hid (X0.out.below hb5)
       clear hb5)
    | (go_at_call 72; (with_reducible refine (rB _ _ _ _ _ _ _).mono ?_); rintro e w6 ⟨A2, n2, c2, rfl, hO2, hb6⟩
       have X2 := Lib.hid (X1.out.below hb6)
       have hl := X1.out.2.size
       have O2 := Lib.hid hO2
       clear hb6 hO2))
  all_goals (
    go_wp2_with fail
    go_ret
    exact Fresh.ret (O2.out.less hl) X2.out.2)
set_option maxHeartbeats 1000000 in
theorem regs9 (a b c d : Int) (nm : ByteArray) (w : World) : Calls Tryz.prog 9 #[.agg #[.int .i64 9, .int .i64 a, .int .i64 b, .int .i64 c, .int .i64 d, .string nm]] w (Fresh .i64 3 [a] w) := by
  have X0 : Hid (Boxed w 9 a b c d nm (w.alloc (.cells #[.int .i64 9, .int .i64 a, .int .i64 b, .int .i64 c, .int .i64 d, .string nm] 32)).drew) := Lib.hid (Boxed.mk_ w 9 a b c d nm _).drew
  have A1 := fieldReads
  go_enter Tryz.func9, Tryz.ntmps9
  go_wp2_with fail
  go_region_held3 (fun w' => w'.cell? ⟨w.heap.size, 0, none⟩ = some (.int .i64 9) ∧ w'.cell? ⟨w.heap.size, 1, none⟩ = some (.int .i64 a) ∧ w'.cell? ⟨w.heap.size, 2, none⟩ = some (.int .i64 b) ∧ w'.cell? ⟨w.heap.size, 3, none⟩ = some (.int .i64 c) ∧ w'.cell? ⟨w.heap.size, 4, none⟩ = some (.int .i64 d) ∧ w'.cell? ⟨w.heap.size, 5, none⟩ = some (.string nm))
    (first | with_reducible exact X0.out.six | with_reducible exact X1.out.six | with_reducible exact X2.out.six)
    (first
    | (go_at_call 36; (with_reducible refine (form9 _).mono ?_); rintro e w5 ⟨rfl, hb5⟩
       have X1 := Lib.hid (X0.out.below hb5)
       clear hb5)
    | (go_at_call 74; (with_reducible refine (rA _ _ _ _ _ _ _).mono ?_); rintro e w6 ⟨A2, n2, c2, rfl, hO2, hb6⟩
       have X2 := Lib.hid (X1.out.below hb6)
       have hl := X1.out.2.size
       have O2 := Lib.hid hO2
       clear hb6 hO2))
  all_goals (
    go_wp2_with fail
    go_ret
    exact Fresh.ret (O2.out.less hl) X2.out.2)
set_option maxHeartbeats 1000000 in
theorem regs10 (a b c d : Int) (nm : ByteArray) (w : World) : Calls Tryz.prog 9 #[.agg #[.int .i64 10, .int .i64 a, .int .i64 b, .int .i64 c, .int .i64 d, .string nm]] w (Fresh .i64 3 [a] w) := by
  have X0 : Hid (Boxed w 10 a b c d nm (w.alloc (.cells #[.int .i64 10, .int .i64 a, .int .i64 b, .int .i64 c, .int .i64 d, .string nm] 32)).drew) := Lib.hid (Boxed.mk_ w 10 a b c d nm _).drew
  have A1 := fieldReads
  go_enter Tryz.func9, Tryz.ntmps9
  go_wp2_with fail
  go_region_held3 (fun w' => w'.cell? ⟨w.heap.size, 0, none⟩ = some (.int .i64 10) ∧ w'.cell? ⟨w.heap.size, 1, none⟩ = some (.int .i64 a) ∧ w'.cell? ⟨w.heap.size, 2, none⟩ = some (.int .i64 b) ∧ w'.cell? ⟨w.heap.size, 3, none⟩ = some (.int .i64 c) ∧ w'.cell? ⟨w.heap.size, 4, none⟩ = some (.int .i64 d) ∧ w'.cell? ⟨w.heap.size, 5, none⟩ = some (.string nm))
    (first | with_reducible exact X0.out.six | with_reducible exact X1.out.six | with_reducible exact X2.out.six)
    (first
    | (go_at_call 36; (with_reducible refine (form10 _).mono ?_); rintro e w5 ⟨rfl, hb5⟩
       have X1 := Lib.hid (X0.out.below hb5)
       clear hb5)
    | (go_at_call 74; (with_reducible refine (rA _ _ _ _ _ _ _).mono ?_); rintro e w6 ⟨A2, n2, c2, rfl, hO2, hb6⟩
       have X2 := Lib.hid (X1.out.below hb6)
       have hl := X1.out.2.size
       have O2 := Lib.hid hO2
       clear hb6 hO2))
  all_goals (
    go_wp2_with fail
    go_ret
    exact Fresh.ret (O2.out.less hl) X2.out.2)
set_option maxHeartbeats 1000000 in
theorem regs0 (op a b c d : Int) (nm : ByteArray) (w : World) (h : ¬ (1 ≤ op ∧ op ≤ 10)) : Calls Tryz.prog 9 #[.agg #[.int .i64 op, .int .i64 a, .int .i64 b, .int .i64 c, .int .i64 d, .string nm]] w (Fresh .i64 3 [] w) := by
  have H := Lib.hid h
  clear h
  have X0 : Hid (Boxed w op a b c d nm (w.alloc (.cells #[.int .i64 op, .int .i64 a, .int .i64 b, .int .i64 c, .int .i64 d, .string nm] 32)).drew) := Lib.hid (Boxed.mk_ w op a b c d nm _).drew
  have A1 := fieldReads
  go_enter Tryz.func9, Tryz.ntmps9
  go_wp2_with fail
  go_region_held3 (fun w' => w'.cell? ⟨w.heap.size, 0, none⟩ = some (.int .i64 op) ∧ w'.cell? ⟨w.heap.size, 1, none⟩ = some (.int .i64 a) ∧ w'.cell? ⟨w.heap.size, 2, none⟩ = some (.int .i64 b) ∧ w'.cell? ⟨w.heap.size, 3, none⟩ = some (.int .i64 c) ∧ w'.cell? ⟨w.heap.size, 4, none⟩ = some (.int .i64 d) ∧ w'.cell? ⟨w.heap.size, 5, none⟩ = some (.string nm))
    (first | with_reducible exact X0.out.six | with_reducible exact X1.out.six | with_reducible exact X2.out.six)
    (first
    | (go_at_call 36; (with_reducible refine (form0 op _ H.out).mono ?_); rintro e w5 ⟨rfl, hb5⟩
       have X1 := Lib.hid (X0.out.below hb5)
       clear hb5)
    | (go_at_call 60; (with_reducible refine (rNone _ _ _ _ _ _ _).mono ?_); rintro e w6 ⟨A2, n2, c2, rfl, hO2, hb6⟩
       have X2 := Lib.hid (X1.out.below hb6)
       have hl := X1.out.2.size
       have O2 := Lib.hid hO2
       clear hb6 hO2))
  all_goals (
    go_wp2_with fail
    go_ret
    exact Fresh.ret (O2.out.less hl) X2.out.2)
theorem implRegs (x : I) (w : World) : Calls Tryz.prog 9 #[.agg #[.int .i64 x.op, .int .i64 x.a, .int .i64 x.b, .int .i64 x.c, .int .i64 x.d, .string x.name]] w (Fresh .i64 3 (regsOf x) w) := by
  obtain ⟨op, a, b, c, d, nm⟩ := x
  rcases opCases op with rfl | rfl | rfl | rfl | rfl | rfl | rfl | rfl | rfl | rfl | h
  · exact regs1 a b c d nm w
  · exact regs2 a b c d nm w
  · exact regs3 a b c d nm w
  · exact regs4 a b c d nm w
  · exact regs5 a b c d nm w
  · exact regs6 a b c d nm w
  · exact regs7 a b c d nm w
  · exact regs8 a b c d nm w
  · exact regs9 a b c d nm w
  · exact regs10 a b c d nm w
  · rw [regs_no h]
    exact regs0 op a b c d nm w h
end Go.Proofs.YtgibhbplgiejpaaGreat
