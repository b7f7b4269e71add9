/- The reference's FormatInstr. -/
import Derived.Test.YthgcodbcafpmhaaDoorInsL
import Derived.Test.YthgcodbcafpmhaaDoorSpecIs
import Derived.Test.YthgcodbcafpmhaaDoorSpecF
import Derived.Test.YthgcodbcafpmhaaDoorTxtQ
namespace Go.Proofs.YthgcodbcafpmhaaDoor
open Go.RowKit Go.Lib
set_option linter.unusedVariables false
set_option linter.unusedSimpArgs false
/-- A numeral. -/
def txt (n : Int) : ByteArray := ⟨(itoa n).toArray⟩
theorem txt_size {n : Int} (h0 : -1 ≤ n) (h1 : n ≤ 1000000000000) : (txt n).size ≤ 13 := by
  show (itoa n).toArray.size ≤ 13
  rw [List.size_toArray]
  by_cases h : n = -1
  · subst h; exact Nat.le_trans (Nat.le_of_eq (by rw [show itoa (-1) = 45 :: decDigits 1 from rfl]; rw [decDigits_one (by omega)]; rfl)) (show 2 ≤ 13 by omega)
  · exact itoa_short (by omega) h1
theorem txt_list (n : Int) : (txt n).data.toList = itoa n := rfl
theorem specTxt (n : Int) (w : World) (h0 : -1 ≤ n) (h1 : n ≤ 1000000000000) : Calls Tryd.prog 14 #[.int .i64 n] w (GivesS (txt n) w) := by
  rcases Int.lt_trichotomy n 0 with h | h | h
  · exact specFormatInt_neg n w h (by omega)
  · subst h; exact specFormatInt_zero w
  · exact specFormatInt_pos n w h (by omega)
theorem opName_size (op : Int) : (opName op).size ≤ 6 := opName_short op
theorem fmt_is {x : I} {t : ByteArray} (h : isI x = true) (e : t.data.toList = joinW 32 (wordsI x)) : t = ⟨(fmtI x).toArray⟩ := by
  apply bytes_eq
  rw [e, fmtI, if_pos h]
theorem fmt_no {x : I} (h : isI x = false) : (⟨#[]⟩ : ByteArray) = ⟨(fmtI x).toArray⟩ := by rw [fmtI, h]; rfl
set_option maxHeartbeats 8000000 in
theorem specFmt (x : I) (w : World) (hs : x.name.size ≤ 140737488351232) : Calls Tryd.prog 6 #[.agg #[.int .i64 x.op, .int .i64 x.a, .int .i64 x.b, .int .i64 x.c, .int .i64 x.d, .string x.name]] w (GivesS ⟨(fmtI x).toArray⟩ w) := by
  cases hv : isI x with
  | false =>
    have HF := Lib.hid (fmt_no hv)
    have HV := Lib.hid hv
    clear hv
    obtain ⟨op, a, b, c, d, nm⟩ := x
    have X := Lib.hid (Boxed.mk_ w op a b c d nm 26)
    go_enter Tryd.func6, Tryd.ntmps6
    go_wp2_with fail
    refine (specIs ⟨op, a, b, c, d, nm⟩ _ hs).mono ?_
    rintro e w1 ⟨rfl, hb⟩
    rw [HV.out]
    replace X := Lib.hid (X.out.below hb)
    clear hb
    go_wp2_with fail
    go_ret
    exact GivesS.ret HF.out X.out.2
  | true =>
    have hp := isI_parts hv
    have hop := isI_op hv
    have hnm := isI_name hv
    obtain ⟨op, a, b, c, d, nm⟩ := x
    simp only at hp hop hnm hs
    have X := Lib.hid (Boxed.mk_ w op a b c d nm 26)
    have ha := txt_size (n := a) (by omega) (by omega)
    have hb' := txt_size (n := b) (by omega) (by omega)
    have hc' := txt_size (n := c) (by omega) (by omega)
    have hd' := txt_size (n := d) (by omega) (by omega)
    have hon := opName_size op
    have hn6 : nm.size ≤ 6 := hnm
    have hsp : (⟨#[32]⟩ : ByteArray).size ≤ 1 := Nat.le_refl _
    have HV := Lib.hid hv
    have HE : Hid (∀ t : ByteArray, t.data.toList = joinW 32 (wordsI ⟨op, a, b, c, d, nm⟩) → t = ⟨(fmtI ⟨op, a, b, c, d, nm⟩).toArray⟩) := Lib.hid (fun t e => fmt_is hv e)
    clear hv hnm
    rcases opCases op with rfl | rfl | rfl | rfl | rfl | rfl | rfl | rfl | rfl | rfl | hn
    · go_enter Tryd.func6, Tryd.ntmps6
      go_wp2_with fail
      refine (specIs ⟨1, a, b, c, d, nm⟩ _ hs).mono ?_
      rintro e w1 ⟨rfl, hb⟩
      rw [HV.out]
      replace X := Lib.hid (X.out.below hb)
      clear hb
      obtain ⟨k0, k1, k2, k3, k4, k5⟩ := X.out.six
      go_wp2_with (first
        | (go_at_call 13; (with_reducible refine (specOp _ _).mono ?_); rintro e w2 ⟨rfl, hb⟩; replace X := Lib.hid (X.out.below hb); clear hb k0 k1 k2 k3 k4 k5; obtain ⟨k0, k1, k2, k3, k4, k5⟩ := X.out.six)
        | (go_at_call 14; (with_reducible refine (specTxt _ _ (by omega) (by omega)).mono ?_); rintro e w2 ⟨rfl, hb⟩; replace X := Lib.hid (X.out.below hb); clear hb k0 k1 k2 k3 k4 k5; obtain ⟨k0, k1, k2, k3, k4, k5⟩ := X.out.six))
      go_ret
      exact GivesS.ret (HE.out _ (by simp [wordsI, joinW, nameW, txt, ByteArray.data_append, regW])) X.out.2
    · go_enter Tryd.func6, Tryd.ntmps6
      go_wp2_with fail
      refine (specIs ⟨2, a, b, c, d, nm⟩ _ hs).mono ?_
      rintro e w1 ⟨rfl, hb⟩
      rw [HV.out]
      replace X := Lib.hid (X.out.below hb)
      clear hb
      obtain ⟨k0, k1, k2, k3, k4, k5⟩ := X.out.six
      go_wp2_with (first
        | (go_at_call 13; (with_reducible refine (specOp _ _).mono ?_); rintro e w2 ⟨rfl, hb⟩; replace X := Lib.hid (X.out.below hb); clear hb k0 k1 k2 k3 k4 k5; obtain ⟨k0, k1, k2, k3, k4, k5⟩ := X.out.six)
        | (go_at_call 14; (with_reducible refine (specTxt _ _ (by omega) (by omega)).mono ?_); rintro e w2 ⟨rfl, hb⟩; replace X := Lib.hid (X.out.below hb); clear hb k0 k1 k2 k3 k4 k5; obtain ⟨k0, k1, k2, k3, k4, k5⟩ := X.out.six))
      go_ret
      exact GivesS.ret (HE.out _ (by simp [wordsI, joinW, nameW, txt, ByteArray.data_append, regW])) X.out.2
    · go_enter Tryd.func6, Tryd.ntmps6
      go_wp2_with fail
      refine (specIs ⟨3, a, b, c, d, nm⟩ _ hs).mono ?_
      rintro e w1 ⟨rfl, hb⟩
      rw [HV.out]
      replace X := Lib.hid (X.out.below hb)
      clear hb
      obtain ⟨k0, k1, k2, k3, k4, k5⟩ := X.out.six
      go_wp2_with (first
        | (go_at_call 13; (with_reducible refine (specOp _ _).mono ?_); rintro e w2 ⟨rfl, hb⟩; replace X := Lib.hid (X.out.below hb); clear hb k0 k1 k2 k3 k4 k5; obtain ⟨k0, k1, k2, k3, k4, k5⟩ := X.out.six)
        | (go_at_call 14; (with_reducible refine (specTxt _ _ (by omega) (by omega)).mono ?_); rintro e w2 ⟨rfl, hb⟩; replace X := Lib.hid (X.out.below hb); clear hb k0 k1 k2 k3 k4 k5; obtain ⟨k0, k1, k2, k3, k4, k5⟩ := X.out.six))
      go_ret
      exact GivesS.ret (HE.out _ (by simp [wordsI, joinW, nameW, txt, ByteArray.data_append, regW])) X.out.2
    · go_enter Tryd.func6, Tryd.ntmps6
      go_wp2_with fail
      refine (specIs ⟨4, a, b, c, d, nm⟩ _ hs).mono ?_
      rintro e w1 ⟨rfl, hb⟩
      rw [HV.out]
      replace X := Lib.hid (X.out.below hb)
      clear hb
      obtain ⟨k0, k1, k2, k3, k4, k5⟩ := X.out.six
      go_wp2_with (first
        | (go_at_call 13; (with_reducible refine (specOp _ _).mono ?_); rintro e w2 ⟨rfl, hb⟩; replace X := Lib.hid (X.out.below hb); clear hb k0 k1 k2 k3 k4 k5; obtain ⟨k0, k1, k2, k3, k4, k5⟩ := X.out.six)
        | (go_at_call 14; (with_reducible refine (specTxt _ _ (by omega) (by omega)).mono ?_); rintro e w2 ⟨rfl, hb⟩; replace X := Lib.hid (X.out.below hb); clear hb k0 k1 k2 k3 k4 k5; obtain ⟨k0, k1, k2, k3, k4, k5⟩ := X.out.six))
      go_ret
      exact GivesS.ret (HE.out _ (by simp [wordsI, joinW, nameW, txt, ByteArray.data_append, regW])) X.out.2
    · go_enter Tryd.func6, Tryd.ntmps6
      go_wp2_with fail
      refine (specIs ⟨5, a, b, c, d, nm⟩ _ hs).mono ?_
      rintro e w1 ⟨rfl, hb⟩
      rw [HV.out]
      replace X := Lib.hid (X.out.below hb)
      clear hb
      obtain ⟨k0, k1, k2, k3, k4, k5⟩ := X.out.six
      go_wp2_with (first
        | (go_at_call 13; (with_reducible refine (specOp _ _).mono ?_); rintro e w2 ⟨rfl, hb⟩; replace X := Lib.hid (X.out.below hb); clear hb k0 k1 k2 k3 k4 k5; obtain ⟨k0, k1, k2, k3, k4, k5⟩ := X.out.six)
        | (go_at_call 14; (with_reducible refine (specTxt _ _ (by omega) (by omega)).mono ?_); rintro e w2 ⟨rfl, hb⟩; replace X := Lib.hid (X.out.below hb); clear hb k0 k1 k2 k3 k4 k5; obtain ⟨k0, k1, k2, k3, k4, k5⟩ := X.out.six))
      go_ret
      exact GivesS.ret (HE.out _ (by simp [wordsI, joinW, nameW, txt, ByteArray.data_append, regW])) X.out.2
    · by_cases hc : c = -1
      · subst hc
        by_cases hd : d = -1
        · subst hd
          go_enter Tryd.func6, Tryd.ntmps6
          go_wp2_with fail
          refine (specIs ⟨6, a, b, (-1), (-1), nm⟩ _ hs).mono ?_
          rintro e w1 ⟨rfl, hb⟩
          rw [HV.out]
          replace X := Lib.hid (X.out.below hb)
          clear hb
          obtain ⟨k0, k1, k2, k3, k4, k5⟩ := X.out.six
          go_wp2_with (first
            | (go_at_call 13; (with_reducible refine (specOp _ _).mono ?_); rintro e w2 ⟨rfl, hb⟩; replace X := Lib.hid (X.out.below hb); clear hb k0 k1 k2 k3 k4 k5; obtain ⟨k0, k1, k2, k3, k4, k5⟩ := X.out.six)
            | (go_at_call 14; (with_reducible refine (specTxt _ _ (by omega) (by omega)).mono ?_); rintro e w2 ⟨rfl, hb⟩; replace X := Lib.hid (X.out.below hb); clear hb k0 k1 k2 k3 k4 k5; obtain ⟨k0, k1, k2, k3, k4, k5⟩ := X.out.six))
          go_ret
          exact GivesS.ret (HE.out _ (by simp [wordsI, joinW, nameW, txt, ByteArray.data_append, regW])) X.out.2
        · have hdb : (d == -1) = false := by simpa using hd
          have hdn : (d != -1) = true := by simpa using hd
          have HDD := Lib.hid hd
          clear hd
          go_enter Tryd.func6, Tryd.ntmps6
          go_wp2_with fail
          refine (specIs ⟨6, a, b, (-1), d, nm⟩ _ hs).mono ?_
          rintro e w1 ⟨rfl, hb⟩
          rw [HV.out]
          replace X := Lib.hid (X.out.below hb)
          clear hb
          obtain ⟨k0, k1, k2, k3, k4, k5⟩ := X.out.six
          go_wp2_with (first
            | (go_at_call 13; (with_reducible refine (specOp _ _).mono ?_); rintro e w2 ⟨rfl, hb⟩; replace X := Lib.hid (X.out.below hb); clear hb k0 k1 k2 k3 k4 k5; obtain ⟨k0, k1, k2, k3, k4, k5⟩ := X.out.six)
            | (go_at_call 14; (with_reducible refine (specTxt _ _ (by omega) (by omega)).mono ?_); rintro e w2 ⟨rfl, hb⟩; replace X := Lib.hid (X.out.below hb); clear hb k0 k1 k2 k3 k4 k5; obtain ⟨k0, k1, k2, k3, k4, k5⟩ := X.out.six))
          go_ret
          exact GivesS.ret (HE.out _ (by simp [wordsI, joinW, nameW, txt, ByteArray.data_append, regW, HDD.out])) X.out.2
      · have hcb : (c == -1) = false := by simpa using hc
        have hcn : (c != -1) = true := by simpa using hc
        have HCC := Lib.hid hc
        clear hc
        by_cases hd : d = -1
        · subst hd
          go_enter Tryd.func6, Tryd.ntmps6
          go_wp2_with fail
          refine (specIs ⟨6, a, b, c, (-1), nm⟩ _ hs).mono ?_
          rintro e w1 ⟨rfl, hb⟩
          rw [HV.out]
          replace X := Lib.hid (X.out.below hb)
          clear hb
          obtain ⟨k0, k1, k2, k3, k4, k5⟩ := X.out.six
          go_wp2_with (first
            | (go_at_call 13; (with_reducible refine (specOp _ _).mono ?_); rintro e w2 ⟨rfl, hb⟩; replace X := Lib.hid (X.out.below hb); clear hb k0 k1 k2 k3 k4 k5; obtain ⟨k0, k1, k2, k3, k4, k5⟩ := X.out.six)
            | (go_at_call 14; (with_reducible refine (specTxt _ _ (by omega) (by omega)).mono ?_); rintro e w2 ⟨rfl, hb⟩; replace X := Lib.hid (X.out.below hb); clear hb k0 k1 k2 k3 k4 k5; obtain ⟨k0, k1, k2, k3, k4, k5⟩ := X.out.six))
          go_ret
          exact GivesS.ret (HE.out _ (by simp [wordsI, joinW, nameW, txt, ByteArray.data_append, regW, HCC.out])) X.out.2
        · have hdb : (d == -1) = false := by simpa using hd
          have hdn : (d != -1) = true := by simpa using hd
          have HDD := Lib.hid hd
          clear hd
          go_enter Tryd.func6, Tryd.ntmps6
          go_wp2_with fail
          refine (specIs ⟨6, a, b, c, d, nm⟩ _ hs).mono ?_
          rintro e w1 ⟨rfl, hb⟩
          rw [HV.out]
          replace X := Lib.hid (X.out.below hb)
          clear hb
          obtain ⟨k0, k1, k2, k3, k4, k5⟩ := X.out.six
          go_wp2_with (first
            | (go_at_call 13; (with_reducible refine (specOp _ _).mono ?_); rintro e w2 ⟨rfl, hb⟩; replace X := Lib.hid (X.out.below hb); clear hb k0 k1 k2 k3 k4 k5; obtain ⟨k0, k1, k2, k3, k4, k5⟩ := X.out.six)
            | (go_at_call 14; (with_reducible refine (specTxt _ _ (by omega) (by omega)).mono ?_); rintro e w2 ⟨rfl, hb⟩; replace X := Lib.hid (X.out.below hb); clear hb k0 k1 k2 k3 k4 k5; obtain ⟨k0, k1, k2, k3, k4, k5⟩ := X.out.six))
          go_ret
          exact GivesS.ret (HE.out _ (by simp [wordsI, joinW, nameW, txt, ByteArray.data_append, regW, HCC.out, HDD.out])) X.out.2
    · by_cases hc : c = -1
      · subst hc
        by_cases hd : d = -1
        · subst hd
          go_enter Tryd.func6, Tryd.ntmps6
          go_wp2_with fail
          refine (specIs ⟨7, a, b, (-1), (-1), nm⟩ _ hs).mono ?_
          rintro e w1 ⟨rfl, hb⟩
          rw [HV.out]
          replace X := Lib.hid (X.out.below hb)
          clear hb
          obtain ⟨k0, k1, k2, k3, k4, k5⟩ := X.out.six
          go_wp2_with (first
            | (go_at_call 13; (with_reducible refine (specOp _ _).mono ?_); rintro e w2 ⟨rfl, hb⟩; replace X := Lib.hid (X.out.below hb); clear hb k0 k1 k2 k3 k4 k5; obtain ⟨k0, k1, k2, k3, k4, k5⟩ := X.out.six)
            | (go_at_call 14; (with_reducible refine (specTxt _ _ (by omega) (by omega)).mono ?_); rintro e w2 ⟨rfl, hb⟩; replace X := Lib.hid (X.out.below hb); clear hb k0 k1 k2 k3 k4 k5; obtain ⟨k0, k1, k2, k3, k4, k5⟩ := X.out.six))
          go_ret
          exact GivesS.ret (HE.out _ (by simp [wordsI, joinW, nameW, txt, ByteArray.data_append, regW])) X.out.2
        · have hdb : (d == -1) = false := by simpa using hd
          have hdn : (d != -1) = true := by simpa using hd
          have HDD := Lib.hid hd
          clear hd
          go_enter Tryd.func6, Tryd.ntmps6
          go_wp2_with fail
          refine (specIs ⟨7, a, b, (-1), d, nm⟩ _ hs).mono ?_
          rintro e w1 ⟨rfl, hb⟩
          rw [HV.out]
          replace X := Lib.hid (X.out.below hb)
          clear hb
          obtain ⟨k0, k1, k2, k3, k4, k5⟩ := X.out.six
          go_wp2_with (first
            | (go_at_call 13; (with_reducible refine (specOp _ _).mono ?_); rintro e w2 ⟨rfl, hb⟩; replace X := Lib.hid (X.out.below hb); clear hb k0 k1 k2 k3 k4 k5; obtain ⟨k0, k1, k2, k3, k4, k5⟩ := X.out.six)
            | (go_at_call 14; (with_reducible refine (specTxt _ _ (by omega) (by omega)).mono ?_); rintro e w2 ⟨rfl, hb⟩; replace X := Lib.hid (X.out.below hb); clear hb k0 k1 k2 k3 k4 k5; obtain ⟨k0, k1, k2, k3, k4, k5⟩ := X.out.six))
          go_ret
          exact GivesS.ret (HE.out _ (by simp [wordsI, joinW, nameW, txt, ByteArray.data_append, regW, HDD.out])) X.out.2
      · have hcb : (c == -1) = false := by simpa using hc
        have hcn : (c != -1) = true := by simpa using hc
        have HCC := Lib.hid hc
        clear hc
        by_cases hd : d = -1
        · subst hd
          go_enter Tryd.func6, Tryd.ntmps6
          go_wp2_with fail
          refine (specIs ⟨7, a, b, c, (-1), nm⟩ _ hs).mono ?_
          rintro e w1 ⟨rfl, hb⟩
          rw [HV.out]
          replace X := Lib.hid (X.out.below hb)
          clear hb
          obtain ⟨k0, k1, k2, k3, k4, k5⟩ := X.out.six
          go_wp2_with (first
            | (go_at_call 13; (with_reducible refine (specOp _ _).mono ?_); rintro e w2 ⟨rfl, hb⟩; replace X := Lib.hid (X.out.below hb); clear hb k0 k1 k2 k3 k4 k5; obtain ⟨k0, k1, k2, k3, k4, k5⟩ := X.out.six)
            | (go_at_call 14; (with_reducible refine (specTxt _ _ (by omega) (by omega)).mono ?_); rintro e w2 ⟨rfl, hb⟩; replace X := Lib.hid (X.out.below hb); clear hb k0 k1 k2 k3 k4 k5; obtain ⟨k0, k1, k2, k3, k4, k5⟩ := X.out.six))
          go_ret
          exact GivesS.ret (HE.out _ (by simp [wordsI, joinW, nameW, txt, ByteArray.data_append, regW, HCC.out])) X.out.2
        · have hdb : (d == -1) = false := by simpa using hd
          have hdn : (d != -1) = true := by simpa using hd
          have HDD := Lib.hid hd
          clear hd
          go_enter Tryd.func6, Tryd.ntmps6
          go_wp2_with fail
          refine (specIs ⟨7, a, b, c, d, nm⟩ _ hs).mono ?_
          rintro e w1 ⟨rfl, hb⟩
          rw [HV.out]
          replace X := Lib.hid (X.out.below hb)
          clear hb
          obtain ⟨k0, k1, k2, k3, k4, k5⟩ := X.out.six
          go_wp2_with (first
            | (go_at_call 13; (with_reducible refine (specOp _ _).mono ?_); rintro e w2 ⟨rfl, hb⟩; replace X := Lib.hid (X.out.below hb); clear hb k0 k1 k2 k3 k4 k5; obtain ⟨k0, k1, k2, k3, k4, k5⟩ := X.out.six)
            | (go_at_call 14; (with_reducible refine (specTxt _ _ (by omega) (by omega)).mono ?_); rintro e w2 ⟨rfl, hb⟩; replace X := Lib.hid (X.out.below hb); clear hb k0 k1 k2 k3 k4 k5; obtain ⟨k0, k1, k2, k3, k4, k5⟩ := X.out.six))
          go_ret
          exact GivesS.ret (HE.out _ (by simp [wordsI, joinW, nameW, txt, ByteArray.data_append, regW, HCC.out, HDD.out])) X.out.2
    · go_enter Tryd.func6, Tryd.ntmps6
      go_wp2_with fail
      refine (specIs ⟨8, a, b, c, d, nm⟩ _ hs).mono ?_
      rintro e w1 ⟨rfl, hb⟩
      rw [HV.out]
      replace X := Lib.hid (X.out.below hb)
      clear hb
      obtain ⟨k0, k1, k2, k3, k4, k5⟩ := X.out.six
      go_wp2_with (first
        | (go_at_call 13; (with_reducible refine (specOp _ _).mono ?_); rintro e w2 ⟨rfl, hb⟩; replace X := Lib.hid (X.out.below hb); clear hb k0 k1 k2 k3 k4 k5; obtain ⟨k0, k1, k2, k3, k4, k5⟩ := X.out.six)
        | (go_at_call 14; (with_reducible refine (specTxt _ _ (by omega) (by omega)).mono ?_); rintro e w2 ⟨rfl, hb⟩; replace X := Lib.hid (X.out.below hb); clear hb k0 k1 k2 k3 k4 k5; obtain ⟨k0, k1, k2, k3, k4, k5⟩ := X.out.six))
      go_ret
      exact GivesS.ret (HE.out _ (by simp [wordsI, joinW, nameW, txt, ByteArray.data_append, regW])) X.out.2
    · go_enter Tryd.func6, Tryd.ntmps6
      go_wp2_with fail
      refine (specIs ⟨9, a, b, c, d, nm⟩ _ hs).mono ?_
      rintro e w1 ⟨rfl, hb⟩
      rw [HV.out]
      replace X := Lib.hid (X.out.below hb)
      clear hb
      obtain ⟨k0, k1, k2, k3, k4, k5⟩ := X.out.six
      go_wp2_with (first
        | (go_at_call 13; (with_reducible refine (specOp _ _).mono ?_); rintro e w2 ⟨rfl, hb⟩; replace X := Lib.hid (X.out.below hb); clear hb k0 k1 k2 k3 k4 k5; obtain ⟨k0, k1, k2, k3, k4, k5⟩ := X.out.six)
        | (go_at_call 14; (with_reducible refine (specTxt _ _ (by omega) (by omega)).mono ?_); rintro e w2 ⟨rfl, hb⟩; replace X := Lib.hid (X.out.below hb); clear hb k0 k1 k2 k3 k4 k5; obtain ⟨k0, k1, k2, k3, k4, k5⟩ := X.out.six))
      go_ret
      exact GivesS.ret (HE.out _ (by simp [wordsI, joinW, nameW, txt, ByteArray.data_append, regW])) X.out.2
    · go_enter Tryd.func6, Tryd.ntmps6
      go_wp2_with fail
      refine (specIs ⟨10, a, b, c, d, nm⟩ _ hs).mono ?_
      rintro e w1 ⟨rfl, hb⟩
      rw [HV.out]
      replace X := Lib.hid (X.out.below hb)
      clear hb
      obtain ⟨k0, k1, k2, k3, k4, k5⟩ := X.out.six
      go_wp2_with (first
        | (go_at_call 13; (with_reducible refine (specOp _ _).mono ?_); rintro e w2 ⟨rfl, hb⟩; replace X := Lib.hid (X.out.below hb); clear hb k0 k1 k2 k3 k4 k5; obtain ⟨k0, k1, k2, k3, k4, k5⟩ := X.out.six)
        | (go_at_call 14; (with_reducible refine (specTxt _ _ (by omega) (by omega)).mono ?_); rintro e w2 ⟨rfl, hb⟩; replace X := Lib.hid (X.out.below hb); clear hb k0 k1 k2 k3 k4 k5; obtain ⟨k0, k1, k2, k3, k4, k5⟩ := X.out.six))
      go_ret
      exact GivesS.ret (HE.out _ (by simp [wordsI, joinW, nameW, txt, ByteArray.data_append, regW])) X.out.2
    · exact absurd hop hn
end Go.Proofs.YthgcodbcafpmhaaDoor
