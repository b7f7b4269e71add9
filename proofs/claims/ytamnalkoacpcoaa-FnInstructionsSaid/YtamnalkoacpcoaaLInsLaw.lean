/- FnInstructions: an instruction writes at most one register, and reads only registers. -/
import Derived.Test.YtamnalkoacpcoaaLRegs
import Derived.Test.YtamnalkoacpcoaaDraw5A
namespace Go.Proofs.Ytamnalkoacpcoaa
open Go.RowKit
set_option linter.unusedVariables false
/-! ### Plain -/
theorem two_passed {c d : Int} (h : two c d = true) : ∀ r ∈ passed c d, isReg r = true := by
  intro r hr
  have hn := isReg_neg
  unfold two at h
  unfold passed at hr
  by_cases hc : c = -1
  · subst hc
    by_cases hd : d = -1
    · subst hd
      simp at hr
    · simp [hd, hn] at h
  · by_cases hd : d = -1
    · subst hd
      simp [hc] at h hr
      rw [hr]; exact h
    · simp [hc, hd] at h hr
      rcases hr with rfl | rfl
      · exact h.1
      · exact h.2
theorem op_ne1 : (opName 1).toList ≠ [] := by
  rw [ByteArray.toList_eq]
  exact List.cons_ne_nil _ _
theorem op_ne2 : (opName 2).toList ≠ [] := by
  rw [ByteArray.toList_eq]
  exact List.cons_ne_nil _ _
theorem op_ne3 : (opName 3).toList ≠ [] := by
  rw [ByteArray.toList_eq]
  exact List.cons_ne_nil _ _
theorem op_ne4 : (opName 4).toList ≠ [] := by
  rw [ByteArray.toList_eq]
  exact List.cons_ne_nil _ _
theorem op_ne5 : (opName 5).toList ≠ [] := by
  rw [ByteArray.toList_eq]
  exact List.cons_ne_nil _ _
theorem op_ne6 : (opName 6).toList ≠ [] := by
  rw [ByteArray.toList_eq]
  exact List.cons_ne_nil _ _
theorem op_ne7 : (opName 7).toList ≠ [] := by
  rw [ByteArray.toList_eq]
  exact List.cons_ne_nil _ _
theorem op_ne8 : (opName 8).toList ≠ [] := by
  rw [ByteArray.toList_eq]
  exact List.cons_ne_nil _ _
theorem op_ne9 : (opName 9).toList ≠ [] := by
  rw [ByteArray.toList_eq]
  exact List.cons_ne_nil _ _
theorem op_ne10 : (opName 10).toList ≠ [] := by
  rw [ByteArray.toList_eq]
  exact List.cons_ne_nil _ _
theorem isI_cases {x : I} (h : isI x = true) : (opName x.op).toList ≠ [] ∧ (0 ≤ targetOf x → isReg (targetOf x) = true) ∧ ∀ r ∈ regsOf x, isReg r = true := by
  obtain ⟨op, a, b, c, d, nm⟩ := x
  rcases opCases op with rfl | rfl | rfl | rfl | rfl | rfl | rfl | rfl | rfl | rfl | h0
  · have h1 : regNum a b c d 0 999999 nm = true := h
    simp only [regNum, Bool.and_eq_true] at h1
    exact ⟨op_ne1, fun _ => h1.1.2, fun r hr => by simp [regsOf] at hr⟩
  · have h1 : regNum a b c d 0 1 nm = true := h
    simp only [regNum, Bool.and_eq_true] at h1
    exact ⟨op_ne2, fun _ => h1.1.2, fun r hr => by simp [regsOf] at hr⟩
  · have h1 : regNum a b c d 0 2 nm = true := h
    simp only [regNum, Bool.and_eq_true] at h1
    exact ⟨op_ne3, fun _ => h1.1.2, fun r hr => by simp [regsOf] at hr⟩
  · have h1 : oneReg a b c d nm = true := h
    simp only [oneReg, Bool.and_eq_true] at h1
    exact ⟨op_ne4, fun _ => h1.1.2, fun r hr => by simp [regsOf] at hr⟩
  · have h1 : addI a b c d nm = true := h
    simp only [addI, Bool.and_eq_true] at h1
    refine ⟨op_ne5, fun _ => h1.1.1.1.1, fun r hr => ?_⟩
    have hr' : r ∈ [b, c] := hr
    simp at hr'
    rcases hr' with rfl | rfl
    · exact h1.1.1.1.2
    · exact h1.1.1.2
  · have h1 : sendI a b c d nm = true := h
    simp only [sendI, Bool.and_eq_true] at h1
    refine ⟨op_ne6, fun _ => h1.1.1.1, fun r hr => ?_⟩
    have hr' : r ∈ b :: passed c d := hr
    rcases List.mem_cons.1 hr' with rfl | hr'
    · exact h1.1.1.2
    · exact two_passed h1.1.2 r hr'
  · have h1 : newI a b c d nm = true := h
    simp only [newI, Bool.and_eq_true] at h1
    exact ⟨op_ne7, fun _ => h1.1.1.1, fun r hr => two_passed h1.1.2 r hr⟩
  · have h1 : setI a b c d nm = true := h
    simp only [setI, Bool.and_eq_true] at h1
    refine ⟨op_ne8, fun h => absurd h (show ¬ (0 : Int) ≤ -1 by decide), fun r hr => ?_⟩
    have hr' : r ∈ [b] := hr
    rw [List.mem_singleton.1 hr']
    exact h1.2
  · have h1 : regNum a b c d 1 12 nm = true := h
    simp only [regNum, Bool.and_eq_true] at h1
    refine ⟨op_ne9, fun h => absurd h (show ¬ (0 : Int) ≤ -1 by decide), fun r hr => ?_⟩
    have hr' : r ∈ [a] := hr
    rw [List.mem_singleton.1 hr']
    exact h1.1.2
  · have h1 : oneReg a b c d nm = true := h
    simp only [oneReg, Bool.and_eq_true] at h1
    refine ⟨op_ne10, fun h => absurd h (show ¬ (0 : Int) ≤ -1 by decide), fun r hr => ?_⟩
    have hr' : r ∈ [a] := hr
    rw [List.mem_singleton.1 hr']
    exact h1.1.2
  · have h1 : isI ⟨op, a, b, c, d, nm⟩ = false := by
      unfold isI
      simp only []
      repeat (rw [if_neg (by omega)])
    rw [h1] at h
    cases h
/-! ### The walk -/
def BoxAt (W : World) (g : Nat) (x : I) (w : World) : Prop := Box g [.int .i64 x.op, .int .i64 x.a, .int .i64 x.b, .int .i64 x.c, .int .i64 x.d, .string x.name] w ∧ Below W.heap.size W w
section
variable {W w w' : World} {g : Nat} {x : I}
theorem BoxAt.below (h : BoxAt W g x w) (hb : Below w.heap.size w w') : BoxAt W g x w' := ⟨h.1.below hb, h.2.trans (hb.mono h.2.size)⟩
theorem BoxAt.drew (h : BoxAt W g x w) : BoxAt W g x w.drew := ⟨h.1.drew, h.2.drew⟩
theorem BoxAt.six (h : BoxAt W g x w) : w.cell? ⟨g, 0, none⟩ = some (.int .i64 x.op) ∧ w.cell? ⟨g, 1, none⟩ = some (.int .i64 x.a) ∧ w.cell? ⟨g, 2, none⟩ = some (.int .i64 x.b) ∧ w.cell? ⟨g, 3, none⟩ = some (.int .i64 x.c) ∧ w.cell? ⟨g, 4, none⟩ = some (.int .i64 x.d) ∧ w.cell? ⟨g, 5, none⟩ = some (.string x.name) :=
  ⟨h.1.2 0 _ rfl, h.1.2 1 _ rfl, h.1.2 2 _ rfl, h.1.2 3 _ rfl, h.1.2 4 _ rfl, h.1.2 5 _ rfl⟩
end
theorem implIsB (x : I) (b : Bool) (w : World) (h : isI x = b) : Calls Try.prog 13 #[.agg #[.int .i64 x.op, .int .i64 x.a, .int .i64 x.b, .int .i64 x.c, .int .i64 x.d, .string x.name]] w (GivesBool b w) := by
  subst h
  exact implIs x w
theorem specIsB (x : I) (b : Bool) (w : World) (h : isI x = b) (hs : x.name.size ≤ 140737488351232) : Calls Try.prog 17 #[.agg #[.int .i64 x.op, .int .i64 x.a, .int .i64 x.b, .int .i64 x.c, .int .i64 x.d, .string x.name]] w (GivesBool b w) := by
  subst h
  exact specIs x w hs
theorem implTargetV (x : I) (t : Int) (w : World) (h : targetOf x = t) : Calls Try.prog 15 #[.agg #[.int .i64 x.op, .int .i64 x.a, .int .i64 x.b, .int .i64 x.c, .int .i64 x.d, .string x.name]] w (GivesInt t w) := by
  subst h
  exact implTarget x w
theorem specTargetV (x : I) (t : Int) (w : World) (h : targetOf x = t) : Calls Try.prog 20 #[.agg #[.int .i64 x.op, .int .i64 x.a, .int .i64 x.b, .int .i64 x.c, .int .i64 x.d, .string x.name]] w (GivesInt t w) := by
  subst h
  exact specTarget x w
theorem implOpV (op : Int) (s : ByteArray) (w : World) (h : opName op = s) : Calls Try.prog 14 #[.int .i64 op] w (GivesS s w) := by
  subst h
  exact implOp op w
set_option maxRecDepth 100000 in
set_option maxHeartbeats 4000000 in
theorem law_instr (A : Option Addr) (n c : Nat) (W : World) (hC : Code W A n) : Calls Try.prog 3 #[.slice A n c] W (GivesBool true W) := by
  have HC := Lib.hid hC
  clear hC
  by_cases hn : n ≤ 1048576
  · go_enter Try.func3, Try.ntmps3
    go_wp2_with fail
    refine (big_no A n c _ hn).mono ?_
    rintro e w' ⟨rfl, rfl⟩
    go_wp2_with fail
    refine (drawIns A n c _ HC.out hn).mono ?_
    rintro e w1 ⟨x, hx, rfl, hb⟩
    have XC : Hid (BoxAt W w1.heap.size x (w1.alloc (.cells #[.int .i64 x.op, .int .i64 x.a, .int .i64 x.b, .int .i64 x.c, .int .i64 x.d, .string x.name] 25))) := Lib.hid ⟨Box.new w1 #[.int .i64 x.op, .int .i64 x.a, .int .i64 x.b, .int .i64 x.c, .int .i64 x.d, .string x.name] 25, hb.alloc hb.size _⟩
    clear hb HC
    go_wp2_with fail
    refine (implRegs x _).mono ?_
    rintro e w2 ⟨A1, n1, c1, rfl, hO, hb⟩
    replace XC := Lib.hid (XC.out.below hb)
    have hn1 : n1 ≤ 3 := by have h1 := hO.1; have h2 := regs_len x; omega
    have RC := Lib.hid hO.rz
    clear hO hb
    obtain ⟨k0, k1, k2, k3, k4, k5⟩ := XC.out.six
    obtain ⟨t, ht⟩ : ∃ t, targetOf x = t := ⟨_, rfl⟩
    have HT := Lib.hid ht
    clear ht
    by_cases hI : isI x = true
    · have HB := Lib.hid hI
      obtain ⟨i1, i2, i3⟩ := isI_cases hI
      obtain ⟨s, hs⟩ : ∃ s, opName x.op = s := ⟨_, rfl⟩
      have HS0 := Lib.hid hs
      rw [hs] at i1
      rw [HT.out] at i2
      have HR := Lib.hid i3
      have s2 : s.toList.isEmpty = false := by cases h : s.toList with | nil => exact absurd h i1 | cons => rfl
      clear hI hs i3
      go_wp2_with fail
      refine (implIsB x true _ HB.out).mono ?_
      rintro e w3 ⟨rfl, hb⟩
      replace XC := Lib.hid (XC.out.below hb)
      replace RC := Lib.hid (RC.out.below hb)
      clear hb k0 k1 k2 k3 k4 k5
      obtain ⟨k0, k1, k2, k3, k4, k5⟩ := XC.out.six
      by_cases ht0 : 0 ≤ t
      · have i4 := i2 ht0
        clear i2
        go_wp2_with fail
        refine (implOpV x.op s _ HS0.out).mono ?_
        rintro e w4 ⟨rfl, hb⟩
        replace XC := Lib.hid (XC.out.below hb)
        replace RC := Lib.hid (RC.out.below hb)
        clear hb k0 k1 k2 k3 k4 k5
        obtain ⟨k0, k1, k2, k3, k4, k5⟩ := XC.out.six
        go_wp2_with fail
        refine (implTargetV x t _ HT.out).mono ?_
        rintro e w5 ⟨rfl, hb⟩
        replace XC := Lib.hid (XC.out.below hb)
        replace RC := Lib.hid (RC.out.below hb)
        clear hb k0 k1 k2 k3 k4 k5
        obtain ⟨k0, k1, k2, k3, k4, k5⟩ := XC.out.six
        go_wp2_with fail
        refine (implTargetV x t _ HT.out).mono ?_
        rintro e w6 ⟨rfl, hb⟩
        replace XC := Lib.hid (XC.out.below hb)
        replace RC := Lib.hid (RC.out.below hb)
        clear hb k0 k1 k2 k3 k4 k5
        obtain ⟨k0, k1, k2, k3, k4, k5⟩ := XC.out.six
        go_wp2_with fail
        refine (implIsReg t _).mono ?_
        rintro e w' ⟨rfl, rfl⟩
        go_wp2_with fail
        go_loop [5] (fun iv => ∃ k : Nat, k ≤ n1 ∧ iv = .int .i64 k) (fun iv => n1 - (intOf iv).toNat)
        case atStart => exact ⟨0, Nat.zero_le _, rfl⟩
        case round =>
          obtain ⟨k, hk, rfl⟩ := hrel
          by_cases hlt : k < n1
          · obtain ⟨b, off, z, rfl, hbw, hzi, hcell⟩ := RC.out.at_ hlt
            have hz := HR.out z (List.mem_of_getElem? hzi)
            clear hzi
            go_wp2_with fail
            refine (implIsReg z _).mono ?_
            rintro e w' ⟨rfl, rfl⟩
            go_wp2_with fail
            go_round
            case rel => exact ⟨k + 1, by omega, by go_num⟩
            case measure => simp [intOf]; omega
          · obtain rfl : k = n1 := by omega
            clear i1 s2
            go_wp2_with fail
            have hH := (XC.out).drew
            have HS := Lib.hid hH.six
            have R0 := Lib.hid (RC.out.drewN 1)
            clear XC k0 k1 k2 k3 k4 k5
            go_region_held3 (fun w' => w'.cell? ⟨w1.heap.size, 0, none⟩ = some (.int .i64 x.op) ∧ w'.cell? ⟨w1.heap.size, 1, none⟩ = some (.int .i64 x.a) ∧ w'.cell? ⟨w1.heap.size, 2, none⟩ = some (.int .i64 x.b) ∧ w'.cell? ⟨w1.heap.size, 3, none⟩ = some (.int .i64 x.c) ∧ w'.cell? ⟨w1.heap.size, 4, none⟩ = some (.int .i64 x.d) ∧ w'.cell? ⟨w1.heap.size, 5, none⟩ = some (.string x.name))
              (first | with_reducible exact HS.out | with_reducible exact BoxAt.six (by assumption))
              (first
              | (go_at_call 13; (with_reducible refine (implIsB x true _ HB.out).mono ?_); rintro e q0 ⟨rfl, hb⟩; have hH0 := BoxAt.below (by assumption : BoxAt W w1.heap.size x _) hb; have R1 := Lib.hid (R0.out.below hb); clear hb)
              | (go_at_call 17; (with_reducible refine (specIsB x true _ HB.out (by omega)).mono ?_); rintro e q1 ⟨rfl, hb⟩; have hH1 := BoxAt.below (by assumption : BoxAt W w1.heap.size x _) hb; have R2 := Lib.hid (R1.out.below hb); clear hb)
              | (go_at_call 19; (with_reducible refine (specRegs x _).mono ?_); rintro e q2 ⟨A2, n2, c2, rfl, hO, hb⟩; have hH2 := BoxAt.below (by assumption : BoxAt W w1.heap.size x _) hb; have R3 := Lib.hid (R2.out.below hb); have Q3 := Lib.hid hO.rz; clear hb hO)
              | (go_at_call 18; (refine (sameI _ _ _ _ _ _ _ _ _ R3.out Q3.out rfl (by omega)).mono ?_); rintro e q3 ⟨rfl, hb⟩; have hH3 := BoxAt.below (by assumption : BoxAt W w1.heap.size x _) hb; clear hb)
              | (go_at_call 15; (with_reducible refine (implTargetV x t _ HT.out).mono ?_); rintro e q4 ⟨rfl, hb⟩; have hH4 := BoxAt.below (by assumption : BoxAt W w1.heap.size x _) hb; clear hb)
              | (go_at_call 20; (with_reducible refine (specTargetV x t _ HT.out).mono ?_); rintro e q5 ⟨rfl, hb⟩; have hH5 := BoxAt.below (by assumption : BoxAt W w1.heap.size x _) hb; clear hb))
            all_goals (
              go_wp2_with fail
              go_ret
              exact GivesBool.ret hH5.2)
      · clear i2
        go_wp2_with fail
        refine (implOpV x.op s _ HS0.out).mono ?_
        rintro e w4 ⟨rfl, hb⟩
        replace XC := Lib.hid (XC.out.below hb)
        replace RC := Lib.hid (RC.out.below hb)
        clear hb k0 k1 k2 k3 k4 k5
        obtain ⟨k0, k1, k2, k3, k4, k5⟩ := XC.out.six
        go_wp2_with fail
        refine (implTargetV x t _ HT.out).mono ?_
        rintro e w5 ⟨rfl, hb⟩
        replace XC := Lib.hid (XC.out.below hb)
        replace RC := Lib.hid (RC.out.below hb)
        clear hb k0 k1 k2 k3 k4 k5
        obtain ⟨k0, k1, k2, k3, k4, k5⟩ := XC.out.six
        go_wp2_with fail
        go_loop [5] (fun iv => ∃ k : Nat, k ≤ n1 ∧ iv = .int .i64 k) (fun iv => n1 - (intOf iv).toNat)
        case atStart => exact ⟨0, Nat.zero_le _, rfl⟩
        case round =>
          obtain ⟨k, hk, rfl⟩ := hrel
          by_cases hlt : k < n1
          · obtain ⟨b, off, z, rfl, hbw, hzi, hcell⟩ := RC.out.at_ hlt
            have hz := HR.out z (List.mem_of_getElem? hzi)
            clear hzi
            go_wp2_with fail
            refine (implIsReg z _).mono ?_
            rintro e w' ⟨rfl, rfl⟩
            go_wp2_with fail
            go_round
            case rel => exact ⟨k + 1, by omega, by go_num⟩
            case measure => simp [intOf]; omega
          · obtain rfl : k = n1 := by omega
            clear i1 s2
            go_wp2_with fail
            have hH := (XC.out).drew
            have HS := Lib.hid hH.six
            have R0 := Lib.hid (RC.out.drewN 1)
            clear XC k0 k1 k2 k3 k4 k5
            go_region_held3 (fun w' => w'.cell? ⟨w1.heap.size, 0, none⟩ = some (.int .i64 x.op) ∧ w'.cell? ⟨w1.heap.size, 1, none⟩ = some (.int .i64 x.a) ∧ w'.cell? ⟨w1.heap.size, 2, none⟩ = some (.int .i64 x.b) ∧ w'.cell? ⟨w1.heap.size, 3, none⟩ = some (.int .i64 x.c) ∧ w'.cell? ⟨w1.heap.size, 4, none⟩ = some (.int .i64 x.d) ∧ w'.cell? ⟨w1.heap.size, 5, none⟩ = some (.string x.name))
              (first | with_reducible exact HS.out | with_reducible exact BoxAt.six (by assumption))
              (first
              | (go_at_call 13; (with_reducible refine (implIsB x true _ HB.out).mono ?_); rintro e q0 ⟨rfl, hb⟩; have hH0 := BoxAt.below (by assumption : BoxAt W w1.heap.size x _) hb; have R1 := Lib.hid (R0.out.below hb); clear hb)
              | (go_at_call 17; (with_reducible refine (specIsB x true _ HB.out (by omega)).mono ?_); rintro e q1 ⟨rfl, hb⟩; have hH1 := BoxAt.below (by assumption : BoxAt W w1.heap.size x _) hb; have R2 := Lib.hid (R1.out.below hb); clear hb)
              | (go_at_call 19; (with_reducible refine (specRegs x _).mono ?_); rintro e q2 ⟨A2, n2, c2, rfl, hO, hb⟩; have hH2 := BoxAt.below (by assumption : BoxAt W w1.heap.size x _) hb; have R3 := Lib.hid (R2.out.below hb); have Q3 := Lib.hid hO.rz; clear hb hO)
              | (go_at_call 18; (refine (sameI _ _ _ _ _ _ _ _ _ R3.out Q3.out rfl (by omega)).mono ?_); rintro e q3 ⟨rfl, hb⟩; have hH3 := BoxAt.below (by assumption : BoxAt W w1.heap.size x _) hb; clear hb)
              | (go_at_call 15; (with_reducible refine (implTargetV x t _ HT.out).mono ?_); rintro e q4 ⟨rfl, hb⟩; have hH4 := BoxAt.below (by assumption : BoxAt W w1.heap.size x _) hb; clear hb)
              | (go_at_call 20; (with_reducible refine (specTargetV x t _ HT.out).mono ?_); rintro e q5 ⟨rfl, hb⟩; have hH5 := BoxAt.below (by assumption : BoxAt W w1.heap.size x _) hb; clear hb))
            all_goals (
              go_wp2_with fail
              go_ret
              exact GivesBool.ret hH5.2)
    · have hI' : isI x = false := by simpa using hI
      have HB := Lib.hid hI'
      clear hI hI'
      go_wp2_with fail
      refine (implIsB x false _ HB.out).mono ?_
      rintro e w3 ⟨rfl, hb⟩
      replace XC := Lib.hid (XC.out.below hb)
      replace RC := Lib.hid (RC.out.below hb)
      clear hb k0 k1 k2 k3 k4 k5
      obtain ⟨k0, k1, k2, k3, k4, k5⟩ := XC.out.six
      go_wp2_with fail
      have hH := (XC.out).drew
      have HS := Lib.hid hH.six
      have R0 := Lib.hid (RC.out.drewN 1)
      clear XC k0 k1 k2 k3 k4 k5
      go_region_held3 (fun w' => w'.cell? ⟨w1.heap.size, 0, none⟩ = some (.int .i64 x.op) ∧ w'.cell? ⟨w1.heap.size, 1, none⟩ = some (.int .i64 x.a) ∧ w'.cell? ⟨w1.heap.size, 2, none⟩ = some (.int .i64 x.b) ∧ w'.cell? ⟨w1.heap.size, 3, none⟩ = some (.int .i64 x.c) ∧ w'.cell? ⟨w1.heap.size, 4, none⟩ = some (.int .i64 x.d) ∧ w'.cell? ⟨w1.heap.size, 5, none⟩ = some (.string x.name))
        (first | with_reducible exact HS.out | with_reducible exact BoxAt.six (by assumption))
        (first
        | (go_at_call 13; (with_reducible refine (implIsB x false _ HB.out).mono ?_); rintro e q0 ⟨rfl, hb⟩; have hH0 := BoxAt.below (by assumption : BoxAt W w1.heap.size x _) hb; have R1 := Lib.hid (R0.out.below hb); clear hb)
        | (go_at_call 17; (with_reducible refine (specIsB x false _ HB.out (by omega)).mono ?_); rintro e q1 ⟨rfl, hb⟩; have hH1 := BoxAt.below (by assumption : BoxAt W w1.heap.size x _) hb; have R2 := Lib.hid (R1.out.below hb); clear hb)
        | (go_at_call 19; (with_reducible refine (specRegs x _).mono ?_); rintro e q2 ⟨A2, n2, c2, rfl, hO, hb⟩; have hH2 := BoxAt.below (by assumption : BoxAt W w1.heap.size x _) hb; have R3 := Lib.hid (R2.out.below hb); have Q3 := Lib.hid hO.rz; clear hb hO)
        | (go_at_call 18; (refine (sameI _ _ _ _ _ _ _ _ _ R3.out Q3.out rfl (by omega)).mono ?_); rintro e q3 ⟨rfl, hb⟩; have hH3 := BoxAt.below (by assumption : BoxAt W w1.heap.size x _) hb; clear hb)
        | (go_at_call 15; (with_reducible refine (implTargetV x t _ HT.out).mono ?_); rintro e q4 ⟨rfl, hb⟩; have hH4 := BoxAt.below (by assumption : BoxAt W w1.heap.size x _) hb; clear hb)
        | (go_at_call 20; (with_reducible refine (specTargetV x t _ HT.out).mono ?_); rintro e q5 ⟨rfl, hb⟩; have hH5 := BoxAt.below (by assumption : BoxAt W w1.heap.size x _) hb; clear hb))
      all_goals (
        go_wp2_with fail
        go_ret
        exact GivesBool.ret hH5.2)
  · go_enter Try.func3, Try.ntmps3
    go_wp2_with fail
    refine (big_yes A n c _ hn).mono ?_
    rintro e w' ⟨rfl, rfl⟩
    go_wp2_with fail
    go_ret
    exact GivesBool.ret (Below.refl _ _)
end Go.Proofs.Ytamnalkoacpcoaa
