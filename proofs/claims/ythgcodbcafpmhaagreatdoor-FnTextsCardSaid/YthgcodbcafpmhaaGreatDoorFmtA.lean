/- The reference's FormatInstr.
   The program's FormatInstr. -/
import Derived.Test.YthgcodbcafpmhaaGreatDoorInsL
import Derived.Test.YthgcodbcafpmhaaGreatDoorSpecIs
import Derived.Test.YthgcodbcafpmhaaGreatDoorNumA
import Derived.Test.YthgcodbcafpmhaaGreatDoorTxtA
import Derived.Lib.OthersKept
import Derived.Laws.RangeAny
import Derived.WalkSmall
namespace Go.Proofs.YthgcodbcafpmhaaGreatDoor
open Go.RowKit Go.Lib
set_option linter.unusedVariables false
set_option linter.unusedSimpArgs false
/-- A numeral. -/
def txt (n : Int) : ByteArray := ⟨(itoa n).toArray⟩
theorem txt_size {n : Int} (h0 : -1 ≤ n) (h1 : n ≤ 1000000000000) : (txt n).size ≤ 13 := by
  show (itoa n).toArray.size ≤ 13
  rw [List.size_toArray]
  by_cases h : n = -1
  · subst h; exact Nat.le_trans (Nat.le_of_eq (by rw [show itoa (-1) = 45 :: decDigits 1 from rfl]; rw [decDigits_one (by omega)]; rfl)) (show 2 ≤ 13 by omega)
  · exact itoa_short (by omega) h1
theorem txt_list (n : Int) : (txt n).data.toList = itoa n := rfl
theorem specTxt (n : Int) (w : World) (h0 : -1 ≤ n) (h1 : n ≤ 1000000000000) : Calls Tryz.prog 72 #[.int .i64 n] w (GivesS (txt n) w) := by
  rcases Int.lt_trichotomy n 0 with h | h | h
  · exact specFormatInt_neg n w h (by omega)
  · subst h; exact specFormatInt_zero w
  · exact specFormatInt_pos n w h (by omega)
theorem opName_size (op : Int) : (opName op).size ≤ 6 := opName_short op
theorem fmt_is {x : I} {t : ByteArray} (h : isI x = true) (e : t.data.toList = joinW 32 (wordsI x)) : t = ⟨(fmtI x).toArray⟩ := by
  apply bytes_eq
  rw [e, fmtI, if_pos h]
theorem fmt_no {x : I} (h : isI x = false) : (⟨#[]⟩ : ByteArray) = ⟨(fmtI x).toArray⟩ := by rw [fmtI, h]; rfl
set_option maxHeartbeats 8000000 in
theorem specFmt (x : I) (w : World) (hs : x.name.size ≤ 140737488351232) : Calls Tryz.prog 44 #[.agg #[.int .i64 x.op, .int .i64 x.a, .int .i64 x.b, .int .i64 x.c, .int .i64 x.d, .string x.name]] w (GivesS ⟨(fmtI x).toArray⟩ w) := by
  cases hv : isI x with
  | false =>
    have HF := Lib.hid (fmt_no hv)
    have HV := Lib.hid hv
    clear hv
    obtain ⟨op, a, b, c, d, nm⟩ := x
    have X := Lib.hid (Boxed.mk_ w op a b c d nm 32)
    go_enter Tryz.func44, Tryz.ntmps44
    go_wp2_with fail
    refine (specIs ⟨op, a, b, c, d, nm⟩ _ hs).mono ?_
    rintro e w1 ⟨rfl, hb⟩
    rw [HV.out]
    replace X := Lib.hid (X.out.below hb)
    clear hb
    go_wp2_with fail
    go_ret
    exact GivesS.ret HF.out X.out.2
  | true =>
    have hp := isI_parts hv
    have hop := isI_op hv
    have hnm := isI_name hv
    obtain ⟨op, a, b, c, d, nm⟩ := x
    simp only at hp hop hnm hs
    have X := Lib.hid (Boxed.mk_ w op a b c d nm 32)
    have ha := txt_size (n := a) (by omega) (by omega)
    have hb' := txt_size (n := b) (by omega) (by omega)
    have hc' := txt_size (n := c) (by omega) (by omega)
    have hd' := txt_size (n := d) (by omega) (by omega)
    have hon := opName_size op
    have hn6 : nm.size ≤ 6 := hnm
    have hsp : (⟨#[32]⟩ : ByteArray).size ≤ 1 := Nat.le_refl _
    have HV := Lib.hid hv
    have HE : Hid (∀ t : ByteArray, t.data.toList = joinW 32 (wordsI ⟨op, a, b, c, d, nm⟩) → t = ⟨(fmtI ⟨op, a, b, c, d, nm⟩).toArray⟩) := Lib.hid (fun t e => fmt_is hv e)
    clear hv hnm
    rcases opCases op with rfl | rfl | rfl | rfl | rfl | rfl | rfl | rfl | rfl | rfl | hn
    · go_enter Tryz.func44, Tryz.ntmps44
      go_wp2_with fail
      refine (specIs ⟨1, a, b, c, d, nm⟩ _ hs).mono ?_
      rintro e w1 ⟨rfl, hb⟩
      rw [HV.out]
      replace X := Lib.hid (X.out.below hb)
      clear hb
      obtain ⟨k0, k1, k2, k3, k4, k5⟩ := X.out.six
      go_wp2_with (first
        | (go_at_call 71; (with_reducible refine (specOp _ _).mono ?_); rintro e w2 ⟨rfl, hb⟩; replace X := Lib.hid (X.out.below hb); clear hb k0 k1 k2 k3 k4 k5; obtain ⟨k0, k1, k2, k3, k4, k5⟩ := X.out.six)
        | (go_at_call 72; (with_reducible refine (specTxt _ _ (by omega) (by omega)).mono ?_); rintro e w2 ⟨rfl, hb⟩; replace X := Lib.hid (X.out.below hb); clear hb k0 k1 k2 k3 k4 k5; obtain ⟨k0, k1, k2, k3, k4, k5⟩ := X.out.six))
      go_ret
      exact GivesS.ret (HE.out _ (by simp [wordsI, joinW, nameW, txt, ByteArray.data_append, regW])) X.out.2
    · go_enter Tryz.func44, Tryz.ntmps44
      go_wp2_with fail
      refine (specIs ⟨2, a, b, c, d, nm⟩ _ hs).mono ?_
      rintro e w1 ⟨rfl, hb⟩
      rw [HV.out]
      replace X := Lib.hid (X.out.below hb)
      clear hb
      obtain ⟨k0, k1, k2, k3, k4, k5⟩ := X.out.six
      go_wp2_with (first
        | (go_at_call 71; (with_reducible refine (specOp _ _).mono ?_); rintro e w2 ⟨rfl, hb⟩; replace X := Lib.hid (X.out.below hb); clear hb k0 k1 k2 k3 k4 k5; obtain ⟨k0, k1, k2, k3, k4, k5⟩ := X.out.six)
        | (go_at_call 72; (with_reducible refine (specTxt _ _ (by omega) (by omega)).mono ?_); rintro e w2 ⟨rfl, hb⟩; replace X := Lib.hid (X.out.below hb); clear hb k0 k1 k2 k3 k4 k5; obtain ⟨k0, k1, k2, k3, k4, k5⟩ := X.out.six))
      go_ret
      exact GivesS.ret (HE.out _ (by simp [wordsI, joinW, nameW, txt, ByteArray.data_append, regW])) X.out.2
    · go_enter Tryz.func44, Tryz.ntmps44
      go_wp2_with fail
      refine (specIs ⟨3, a, b, c, d, nm⟩ _ hs).mono ?_
      rintro e w1 ⟨rfl, hb⟩
      rw [HV.out]
      replace X := Lib.hid (X.out.below hb)
      clear hb
      obtain ⟨k0, k1, k2, k3, k4, k5⟩ := X.out.six
      go_wp2_with (first
        | (go_at_call 71; (with_reducible refine (specOp _ _).mono ?_); rintro e w2 ⟨rfl, hb⟩; replace X := Lib.hid (X.out.below hb); clear hb k0 k1 k2 k3 k4 k5; obtain ⟨k0, k1, k2, k3, k4, k5⟩ := X.out.six)
        | (go_at_call 72; (with_reducible refine (specTxt _ _ (by omega) (by omega)).mono ?_); rintro e w2 ⟨rfl, hb⟩; replace X := Lib.hid (X.out.below hb); clear hb k0 k1 k2 k3 k4 k5; obtain ⟨k0, k1, k2, k3, k4, k5⟩ := X.out.six))
      go_ret
      exact GivesS.ret (HE.out _ (by simp [wordsI, joinW, nameW, txt, ByteArray.data_append, regW])) X.out.2
    · go_enter Tryz.func44, Tryz.ntmps44
      go_wp2_with fail
      refine (specIs ⟨4, a, b, c, d, nm⟩ _ hs).mono ?_
      rintro e w1 ⟨rfl, hb⟩
      rw [HV.out]
      replace X := Lib.hid (X.out.below hb)
      clear hb
      obtain ⟨k0, k1, k2, k3, k4, k5⟩ := X.out.six
      go_wp2_with (first
        | (go_at_call 71; (with_reducible refine (specOp _ _).mono ?_); rintro e w2 ⟨rfl, hb⟩; replace X := Lib.hid (X.out.below hb); clear hb k0 k1 k2 k3 k4 k5; obtain ⟨k0, k1, k2, k3, k4, k5⟩ := X.out.six)
        | (go_at_call 72; (with_reducible refine (specTxt _ _ (by omega) (by omega)).mono ?_); rintro e w2 ⟨rfl, hb⟩; replace X := Lib.hid (X.out.below hb); clear hb k0 k1 k2 k3 k4 k5; obtain ⟨k0, k1, k2, k3, k4, k5⟩ := X.out.six))
      go_ret
      exact GivesS.ret (HE.out _ (by simp [wordsI, joinW, nameW, txt, ByteArray.data_append, regW])) X.out.2
    · go_enter Tryz.func44, Tryz.ntmps44
      go_wp2_with fail
      refine (specIs ⟨5, a, b, c, d, nm⟩ _ hs).mono ?_
      rintro e w1 ⟨rfl, hb⟩
      rw [HV.out]
      replace X := Lib.hid (X.out.below hb)
      clear hb
      obtain ⟨k0, k1, k2, k3, k4, k5⟩ := X.out.six
      go_wp2_with (first
        | (go_at_call 71; (with_reducible refine (specOp _ _).mono ?_); rintro e w2 ⟨rfl, hb⟩; replace X := Lib.hid (X.out.below hb); clear hb k0 k1 k2 k3 k4 k5; obtain ⟨k0, k1, k2, k3, k4, k5⟩ := X.out.six)
        | (go_at_call 72; (with_reducible refine (specTxt _ _ (by omega) (by omega)).mono ?_); rintro e w2 ⟨rfl, hb⟩; replace X := Lib.hid (X.out.below hb); clear hb k0 k1 k2 k3 k4 k5; obtain ⟨k0, k1, k2, k3, k4, k5⟩ := X.out.six))
      go_ret
      exact GivesS.ret (HE.out _ (by simp [wordsI, joinW, nameW, txt, ByteArray.data_append, regW])) X.out.2
    · by_cases hc : c = -1
      · subst hc
        by_cases hd : d = -1
        · subst hd
          go_enter Tryz.func44, Tryz.ntmps44
          go_wp2_with fail
          refine (specIs ⟨6, a, b, (-1), (-1), nm⟩ _ hs).mono ?_
          rintro e w1 ⟨rfl, hb⟩
          rw [HV.out]
          replace X := Lib.hid (X.out.below hb)
          clear hb
          obtain ⟨k0, k1, k2, k3, k4, k5⟩ := X.out.six
          go_wp2_with (first
            | (go_at_call 71; (with_reducible refine (specOp _ _).mono ?_); rintro e w2 ⟨rfl, hb⟩; replace X := Lib.hid (X.out.below hb); clear hb k0 k1 k2 k3 k4 k5; obtain ⟨k0, k1, k2, k3, k4, k5⟩ := X.out.six)
            | (go_at_call 72; (with_reducible refine (specTxt _ _ (by omega) (by omega)).mono ?_); rintro e w2 ⟨rfl, hb⟩; replace X := Lib.hid (X.out.below hb); clear hb k0 k1 k2 k3 k4 k5; obtain ⟨k0, k1, k2, k3, k4, k5⟩ := X.out.six))
          go_ret
          exact GivesS.ret (HE.out _ (by simp [wordsI, joinW, nameW, txt, ByteArray.data_append, regW])) X.out.2
        · have hdb : (d == -1) = false := by simpa using hd
          have hdn : (d != -1) = true := by simpa using hd
          have HDD := Lib.hid hd
          clear hd
          go_enter Tryz.func44, Tryz.ntmps44
          go_wp2_with fail
          refine (specIs ⟨6, a, b, (-1), d, nm⟩ _ hs).mono ?_
          rintro e w1 ⟨rfl, hb⟩
          rw [HV.out]
          replace X := Lib.hid (X.out.below hb)
          clear hb
          obtain ⟨k0, k1, k2, k3, k4, k5⟩ := X.out.six
          go_wp2_with (first
            | (go_at_call 71; (with_reducible refine (specOp _ _).mono ?_); rintro e w2 ⟨rfl, hb⟩; replace X := Lib.hid (X.out.below hb); clear hb k0 k1 k2 k3 k4 k5; obtain ⟨k0, k1, k2, k3, k4, k5⟩ := X.out.six)
            | (go_at_call 72; (with_reducible refine (specTxt _ _ (by omega) (by omega)).mono ?_); rintro e w2 ⟨rfl, hb⟩; replace X := Lib.hid (X.out.below hb); clear hb k0 k1 k2 k3 k4 k5; obtain ⟨k0, k1, k2, k3, k4, k5⟩ := X.out.six))
          go_ret
          exact GivesS.ret (HE.out _ (by simp [wordsI, joinW, nameW, txt, ByteArray.data_append, regW, HDD.out])) X.out.2
      · have hcb : (c == -1) = false := by simpa using hc
        have hcn : (c != -1) = true := by simpa using hc
        have HCC := Lib.hid hc
        clear hc
        by_cases hd : d = -1
        · subst hd
          go_enter Tryz.func44, Tryz.ntmps44
          go_wp2_with fail
          refine (specIs ⟨6, a, b, c, (-1), nm⟩ _ hs).mono ?_
          rintro e w1 ⟨rfl, hb⟩
          rw [HV.out]
          replace X := Lib.hid (X.out.below hb)
          clear hb
          obtain ⟨k0, k1, k2, k3, k4, k5⟩ := X.out.six
          go_wp2_with (first
            | (go_at_call 71; (with_reducible refine (specOp _ _).mono ?_); rintro e w2 ⟨rfl, hb⟩; replace X := Lib.hid (X.out.below hb); clear hb k0 k1 k2 k3 k4 k5; obtain ⟨k0, k1, k2, k3, k4, k5⟩ := X.out.six)
            | (go_at_call 72; (with_reducible refine (specTxt _ _ (by omega) (by omega)).mono ?_); rintro e w2 ⟨rfl, hb⟩; replace X := Lib.hid (X.out.below hb); clear hb k0 k1 k2 k3 k4 k5; obtain ⟨k0, k1, k2, k3, k4, k5⟩ := X.out.six))
          go_ret
          exact GivesS.ret (HE.out _ (by simp [wordsI, joinW, nameW, txt, ByteArray.data_append, regW, HCC.out])) X.out.2
        · have hdb : (d == -1) = false := by simpa using hd
          have hdn : (d != -1) = true := by simpa using hd
          have HDD := Lib.hid hd
          clear hd
          go_enter Tryz.func44, Tryz.ntmps44
          go_wp2_with fail
          refine (specIs ⟨6, a, b, c, d, nm⟩ _ hs).mono ?_
          rintro e w1 ⟨rfl, hb⟩
          rw [HV.out]
          replace X := Lib.hid (X.out.below hb)
          clear hb
          obtain ⟨k0, k1, k2, k3, k4, k5⟩ := X.out.six
          go_wp2_with (first
            | (go_at_call 71; (with_reducible refine (specOp _ _).mono ?_); rintro e w2 ⟨rfl, hb⟩; replace X := Lib.hid (X.out.below hb); clear hb k0 k1 k2 k3 k4 k5; obtain ⟨k0, k1, k2, k3, k4, k5⟩ := X.out.six)
            | (go_at_call 72; (with_reducible refine (specTxt _ _ (by omega) (by omega)).mono ?_); rintro e w2 ⟨rfl, hb⟩; replace X := Lib.hid (X.out.below hb); clear hb k0 k1 k2 k3 k4 k5; obtain ⟨k0, k1, k2, k3, k4, k5⟩ := X.out.six))
          go_ret
          exact GivesS.ret (HE.out _ (by simp [wordsI, joinW, nameW, txt, ByteArray.data_append, regW, HCC.out, HDD.out])) X.out.2
    · by_cases hc : c = -1
      · subst hc
        by_cases hd : d = -1
        · subst hd
          go_enter Tryz.func44, Tryz.ntmps44
          go_wp2_with fail
          refine (specIs ⟨7, a, b, (-1), (-1), nm⟩ _ hs).mono ?_
          rintro e w1 ⟨rfl, hb⟩
          rw [HV.out]
          replace X := Lib.hid (X.out.below hb)
          clear hb
          obtain ⟨k0, k1, k2, k3, k4, k5⟩ := X.out.six
          go_wp2_with (first
            | (go_at_call 71; (with_reducible refine (specOp _ _).mono ?_); rintro e w2 ⟨rfl, hb⟩; replace X := Lib.hid (X.out.below hb); clear hb k0 k1 k2 k3 k4 k5; obtain ⟨k0, k1, k2, k3, k4, k5⟩ := X.out.six)
            | (go_at_call 72; (with_reducible refine (specTxt _ _ (by omega) (by omega)).mono ?_); rintro e w2 ⟨rfl, hb⟩; replace X := Lib.hid (X.out.below hb); clear hb k0 k1 k2 k3 k4 k5; obtain ⟨k0, k1, k2, k3, k4, k5⟩ := X.out.six))
          go_ret
          exact GivesS.ret (HE.out _ (by simp [wordsI, joinW, nameW, txt, ByteArray.data_append, regW])) X.out.2
        · have hdb : (d == -1) = false := by simpa using hd
          have hdn : (d != -1) = true := by simpa using hd
          have HDD := Lib.hid hd
          clear hd
          go_enter Tryz.func44, Tryz.ntmps44
          go_wp2_with fail
          refine (specIs ⟨7, a, b, (-1), d, nm⟩ _ hs).mono ?_
          rintro e w1 ⟨rfl, hb⟩
          rw [HV.out]
          replace X := Lib.hid (X.out.below hb)
          clear hb
          obtain ⟨k0, k1, k2, k3, k4, k5⟩ := X.out.six
          go_wp2_with (first
            | (go_at_call 71; (with_reducible refine (specOp _ _).mono ?_); rintro e w2 ⟨rfl, hb⟩; replace X := Lib.hid (X.out.below hb); clear hb k0 k1 k2 k3 k4 k5; obtain ⟨k0, k1, k2, k3, k4, k5⟩ := X.out.six)
            | (go_at_call 72; (with_reducible refine (specTxt _ _ (by omega) (by omega)).mono ?_); rintro e w2 ⟨rfl, hb⟩; replace X := Lib.hid (X.out.below hb); clear hb k0 k1 k2 k3 k4 k5; obtain ⟨k0, k1, k2, k3, k4, k5⟩ := X.out.six))
          go_ret
          exact GivesS.ret (HE.out _ (by simp [wordsI, joinW, nameW, txt, ByteArray.data_append, regW, HDD.out])) X.out.2
      · have hcb : (c == -1) = false := by simpa using hc
        have hcn : (c != -1) = true := by simpa using hc
        have HCC := Lib.hid hc
        clear hc
        by_cases hd : d = -1
        · subst hd
          go_enter Tryz.func44, Tryz.ntmps44
          go_wp2_with fail
          refine (specIs ⟨7, a, b, c, (-1), nm⟩ _ hs).mono ?_
          rintro e w1 ⟨rfl, hb⟩
          rw [HV.out]
          replace X := Lib.hid (X.out.below hb)
          clear hb
          obtain ⟨k0, k1, k2, k3, k4, k5⟩ := X.out.six
          go_wp2_with (first
            | (go_at_call 71; (with_reducible refine (specOp _ _).mono ?_); rintro e w2 ⟨rfl, hb⟩; replace X := Lib.hid (X.out.below hb); clear hb k0 k1 k2 k3 k4 k5; obtain ⟨k0, k1, k2, k3, k4, k5⟩ := X.out.six)
            | (go_at_call 72; (with_reducible refine (specTxt _ _ (by omega) (by omega)).mono ?_); rintro e w2 ⟨rfl, hb⟩; replace X := Lib.hid (X.out.below hb); clear hb k0 k1 k2 k3 k4 k5; obtain ⟨k0, k1, k2, k3, k4, k5⟩ := X.out.six))
          go_ret
          exact GivesS.ret (HE.out _ (by simp [wordsI, joinW, nameW, txt, ByteArray.data_append, regW, HCC.out])) X.out.2
        · have hdb : (d == -1) = false := by simpa using hd
          have hdn : (d != -1) = true := by simpa using hd
          have HDD := Lib.hid hd
          clear hd
          go_enter Tryz.func44, Tryz.ntmps44
          go_wp2_with fail
          refine (specIs ⟨7, a, b, c, d, nm⟩ _ hs).mono ?_
          rintro e w1 ⟨rfl, hb⟩
          rw [HV.out]
          replace X := Lib.hid (X.out.below hb)
          clear hb
          obtain ⟨k0, k1, k2, k3, k4, k5⟩ := X.out.six
          go_wp2_with (first
            | (go_at_call 71; (with_reducible refine (specOp _ _).mono ?_); rintro e w2 ⟨rfl, hb⟩; replace X := Lib.hid (X.out.below hb); clear hb k0 k1 k2 k3 k4 k5; obtain ⟨k0, k1, k2, k3, k4, k5⟩ := X.out.six)
            | (go_at_call 72; (with_reducible refine (specTxt _ _ (by omega) (by omega)).mono ?_); rintro e w2 ⟨rfl, hb⟩; replace X := Lib.hid (X.out.below hb); clear hb k0 k1 k2 k3 k4 k5; obtain ⟨k0, k1, k2, k3, k4, k5⟩ := X.out.six))
          go_ret
          exact GivesS.ret (HE.out _ (by simp [wordsI, joinW, nameW, txt, ByteArray.data_append, regW, HCC.out, HDD.out])) X.out.2
    · go_enter Tryz.func44, Tryz.ntmps44
      go_wp2_with fail
      refine (specIs ⟨8, a, b, c, d, nm⟩ _ hs).mono ?_
      rintro e w1 ⟨rfl, hb⟩
      rw [HV.out]
      replace X := Lib.hid (X.out.below hb)
      clear hb
      obtain ⟨k0, k1, k2, k3, k4, k5⟩ := X.out.six
      go_wp2_with (first
        | (go_at_call 71; (with_reducible refine (specOp _ _).mono ?_); rintro e w2 ⟨rfl, hb⟩; replace X := Lib.hid (X.out.below hb); clear hb k0 k1 k2 k3 k4 k5; obtain ⟨k0, k1, k2, k3, k4, k5⟩ := X.out.six)
        | (go_at_call 72; (with_reducible refine (specTxt _ _ (by omega) (by omega)).mono ?_); rintro e w2 ⟨rfl, hb⟩; replace X := Lib.hid (X.out.below hb); clear hb k0 k1 k2 k3 k4 k5; obtain ⟨k0, k1, k2, k3, k4, k5⟩ := X.out.six))
      go_ret
      exact GivesS.ret (HE.out _ (by simp [wordsI, joinW, nameW, txt, ByteArray.data_append, regW])) X.out.2
    · go_enter Tryz.func44, Tryz.ntmps44
      go_wp2_with fail
      refine (specIs ⟨9, a, b, c, d, nm⟩ _ hs).mono ?_
      rintro e w1 ⟨rfl, hb⟩
      rw [HV.out]
      replace X := Lib.hid (X.out.below hb)
      clear hb
      obtain ⟨k0, k1, k2, k3, k4, k5⟩ := X.out.six
      go_wp2_with (first
        | (go_at_call 71; (with_reducible refine (specOp _ _).mono ?_); rintro e w2 ⟨rfl, hb⟩; replace X := Lib.hid (X.out.below hb); clear hb k0 k1 k2 k3 k4 k5; obtain ⟨k0, k1, k2, k3, k4, k5⟩ := X.out.six)
        | (go_at_call 72; (with_reducible refine (specTxt _ _ (by omega) (by omega)).mono ?_); rintro e w2 ⟨rfl, hb⟩; replace X := Lib.hid (X.out.below hb); clear hb k0 k1 k2 k3 k4 k5; obtain ⟨k0, k1, k2, k3, k4, k5⟩ := X.out.six))
      go_ret
      exact GivesS.ret (HE.out _ (by simp [wordsI, joinW, nameW, txt, ByteArray.data_append, regW])) X.out.2
    · go_enter Tryz.func44, Tryz.ntmps44
      go_wp2_with fail
      refine (specIs ⟨10, a, b, c, d, nm⟩ _ hs).mono ?_
      rintro e w1 ⟨rfl, hb⟩
      rw [HV.out]
      replace X := Lib.hid (X.out.below hb)
      clear hb
      obtain ⟨k0, k1, k2, k3, k4, k5⟩ := X.out.six
      go_wp2_with (first
        | (go_at_call 71; (with_reducible refine (specOp _ _).mono ?_); rintro e w2 ⟨rfl, hb⟩; replace X := Lib.hid (X.out.below hb); clear hb k0 k1 k2 k3 k4 k5; obtain ⟨k0, k1, k2, k3, k4, k5⟩ := X.out.six)
        | (go_at_call 72; (with_reducible refine (specTxt _ _ (by omega) (by omega)).mono ?_); rintro e w2 ⟨rfl, hb⟩; replace X := Lib.hid (X.out.below hb); clear hb k0 k1 k2 k3 k4 k5; obtain ⟨k0, k1, k2, k3, k4, k5⟩ := X.out.six))
      go_ret
      exact GivesS.ret (HE.out _ (by simp [wordsI, joinW, nameW, txt, ByteArray.data_append, regW])) X.out.2
    · exact absurd hop hn
end Go.Proofs.YthgcodbcafpmhaaGreatDoor
namespace Go.Proofs.YthgcodbcafpmhaaGreatDoor
open Go.RowKit Go.Lib
set_option linter.unusedVariables false
set_option linter.unusedSimpArgs false
theorem implTxt (n : Int) (w : World) (h0 : -1 ≤ n) (h1 : n ≤ 1000000000000) (hT : Pow10 w) : Calls Tryz.prog 53 #[.int .i64 n] w (GivesS (txt n) w) := implFormatInt n w (by omega) (by omega) hT
/-- A string comes back, and nothing turns. -/
def SameS (s : ByteArray) (w : World) (e : Ending) (w' : World) : Prop := e = .returned (.string s) ∧ w = w'
theorem SameS.ret {s t : ByteArray} {w : World} (h : s = t) : SameS t w (.returned (.string s)) w := ⟨by rw [h], rfl⟩
theorem lay_no {op : Int} (h : ¬ (1 ≤ op ∧ op ≤ 10)) : (⟨#[]⟩ : ByteArray) = strB (layW op) := by
  unfold layW
  repeat (rw [if_neg (by omega)])
  rfl
set_option maxHeartbeats 2000000 in
theorem implLay (op : Int) (w : World) : Calls Tryz.prog 52 #[.int .i64 op] w (SameS (strB (layW op)) w) := by
  rcases opCases op with rfl | rfl | rfl | rfl | rfl | rfl | rfl | rfl | rfl | rfl | h
  all_goals first
  | (have n1 : (op == 1) = false := by simp; omega
     have n2 : (op == 2) = false := by simp; omega
     have n3 : (op == 3) = false := by simp; omega
     have n4 : (op == 4) = false := by simp; omega
     have n5 : (op == 5) = false := by simp; omega
     have n6 : (op == 6) = false := by simp; omega
     have n7 : (op == 7) = false := by simp; omega
     have n8 : (op == 8) = false := by simp; omega
     have n9 : (op == 9) = false := by simp; omega
     have n10 : (op == 10) = false := by simp; omega
     have H := Lib.hid (lay_no h)
     clear h
     go_enter Tryz.func52, Tryz.ntmps52
     go_wp2
     go_ret
     exact SameS.ret H.out)
  | (go_enter Tryz.func52, Tryz.ntmps52
     go_wp2
     go_ret
     exact SameS.ret rfl)
/-- The argument's box, the four numbers and the iterator. -/
def FmtR (W : World) (op a b c d : Int) (nm : ByteArray) (g k : Nat) (wr : World) : Prop :=
  Boxed W op a b c d nm wr ∧ Box g [.int .i64 a, .int .i64 b, .int .i64 c, .int .i64 d] wr ∧ wr.heap[g + 1]? = some (.stringIter (strB (layW op)) k) ∧ W.heap.size < g
section
variable {W wr w' : World} {op a b c d : Int} {nm : ByteArray} {g k : Nat}
theorem Box.iterAt {b k : Nat} {cs : List Value} (h : Box b cs wr) (hk : b ≠ k) (s : ByteArray) (pos : Nat) : Box b cs (wr.iterAt k s pos) :=
  ⟨by rw [iterAt_size]; exact h.1, fun i v hv => (World.cell?_of_block (w := wr) (a := ⟨b, i, none⟩) (iterAt_other wr k b s pos hk)).trans (h.2 i v hv)⟩
theorem FmtR.at_ (h : FmtR W op a b c d nm g k wr) (k' : Nat) : FmtR W op a b c d nm g k' (wr.iterAt (g + 1) (strB (layW op)) k') :=
  ⟨⟨h.1.1.iterAt (by have := h.2.2.2; omega) _ _, below_iterAt h.1.2 (by have := h.2.2.2; omega) _ _⟩, h.2.1.iterAt (by omega) _ _, iterAt_heap _ _ _ k k' h.2.2.1, h.2.2.2⟩
theorem FmtR.below (h : FmtR W op a b c d nm g k wr) (hb : Below wr.heap.size wr w') : FmtR W op a b c d nm g k w' :=
  ⟨h.1.below hb, h.2.1.below hb, (hb.block _ (Array.getElem?_eq_some_iff.1 h.2.2.1).1).trans h.2.2.1, h.2.2.2⟩
theorem FmtR.cells (h : FmtR W op a b c d nm g k wr) : wr.cell? ⟨g, 0, none⟩ = some (.int .i64 a) ∧ wr.cell? ⟨g, 1, none⟩ = some (.int .i64 b) ∧ wr.cell? ⟨g, 2, none⟩ = some (.int .i64 c) ∧ wr.cell? ⟨g, 3, none⟩ = some (.int .i64 d) ∧ wr.cell? ⟨W.heap.size, 5, none⟩ = some (.string nm) :=
  ⟨h.2.1.2 0 _ rfl, h.2.1.2 1 _ rfl, h.2.1.2 2 _ rfl, h.2.1.2 3 _ rfl, h.1.six.2.2.2.2.2⟩
end
theorem lay_letters (op : Int) : ∀ c ∈ layW op, c = 65 ∨ c = 66 ∨ c = 67 ∨ c = 68 ∨ c = 78 := by
  rcases opCases op with rfl | rfl | rfl | rfl | rfl | rfl | rfl | rfl | rfl | rfl | h
  all_goals first
  | (intro c hc
     have : layW op = [] := by
       unfold layW
       repeat (rw [if_neg (by omega)])
     rw [this] at hc
     cases hc)
  | decide
theorem textK_opt {x : I} (h : isI x = true) (k : Nat) : ∃ t, strB (textK x k) = t ∧ t.size ≤ 76 := ⟨_, rfl, textK_short h k⟩
theorem text_name {x : I} {k : Nat} (h : (layW x.op)[k]? = some 78) : strB (textK x k) ++ (⟨#[32]⟩ ++ x.name) = strB (textK x (k + 1)) := by
  apply bytes_eq
  rw [textK_next h]
  simp [ByteArray.data_append, strB, pieceI, nameW]
theorem text_num {x : I} {k : Nat} {c : UInt8} (h : (layW x.op)[k]? = some c) (hc : c ≠ 78) (hn : numAt x c ≠ -1) : strB (textK x k) ++ (⟨#[32]⟩ ++ txt (numAt x c)) = strB (textK x (k + 1)) := by
  apply bytes_eq
  rw [textK_next h]
  simp [ByteArray.data_append, strB, pieceI, hc, hn, txt]
theorem text_skip {x : I} {k : Nat} {c : UInt8} (h : (layW x.op)[k]? = some c) (hc : c ≠ 78) (hn : numAt x c = -1) : strB (textK x k) = strB (textK x (k + 1)) := by
  rw [textK_next h]
  simp [pieceI, hc, hn]
theorem next_letter {W wr : World} {op a b c d : Int} {nm : ByteArray} {g k : Nat} (h : FmtR W op a b c d nm g k wr) {ch : UInt8} {n : Int} (hc : (layW op)[k]? = some ch) (hn : (ch.toNat : Int) = n) (ha : ch.toNat < 128) (ty : TypeId) :
    (Instr.next (.pointer (some ⟨g + 1, 0, none⟩)) true ty).run Tryz.prog wr = .ok (.tuple #[.bool true, .int .i64 k, .int .i32 n]) (wr.iterAt (g + 1) (strB (layW op)) (k + 1)) := by
  have hlt : k < (strB (layW op)).size := by
    show k < (layW op).toArray.size
    rw [List.size_toArray]
    exact (List.getElem?_eq_some_iff.1 hc).1
  have e : (strB (layW op))[k]'hlt = ch := by
    have h1 := (List.getElem?_eq_some_iff.1 hc).2
    exact h1
  rw [run_next_ascii_at wr (g + 1) (strB (layW op)) k ty h.2.2.1 hlt (by rw [e]; exact ha), e, hn]
set_option maxRecDepth 100000 in
set_option maxHeartbeats 8000000 in
theorem implFmt (x : I) (w : World) (hT : Pow10 w) : Calls Tryz.prog 17 #[.agg #[.int .i64 x.op, .int .i64 x.a, .int .i64 x.b, .int .i64 x.c, .int .i64 x.d, .string x.name]] w (GivesS ⟨(fmtI x).toArray⟩ w) := by
  have HT := Lib.hid hT
  clear hT
  cases hv : isI x with
  | false =>
    have HF := Lib.hid (fmt_no hv)
    have HV := Lib.hid hv
    clear hv
    obtain ⟨op, a, b, c, d, nm⟩ := x
    have X := Lib.hid (Boxed.mk_ w op a b c d nm 32)
    go_enter Tryz.func17, Tryz.ntmps17
    go_wp2_with fail
    refine (implIs ⟨op, a, b, c, d, nm⟩ _).mono ?_
    rintro e w1 ⟨rfl, hb⟩
    rw [HV.out]
    replace X := Lib.hid (X.out.below hb)
    clear hb
    go_wp2_with fail
    go_ret
    exact GivesS.ret HF.out X.out.2
  | true =>
    have hp := isI_parts hv
    have hnm := isI_name hv
    have HV := Lib.hid hv
    obtain ⟨op, a, b, c, d, nm⟩ := x
    simp only at hp hnm
    have X := Lib.hid (Boxed.mk_ w op a b c d nm 32)
    have ha := txt_size (n := a) (by omega) (by omega)
    have hb' := txt_size (n := b) (by omega) (by omega)
    have hc' := txt_size (n := c) (by omega) (by omega)
    have hd' := txt_size (n := d) (by omega) (by omega)
    have hn6 : nm.size ≤ 6 := hnm
    have hsp : (⟨#[32]⟩ : ByteArray).size ≤ 1 := Nat.le_refl _
    clear hv hnm
    go_enter Tryz.func17, Tryz.ntmps17
    go_wp2_with fail
    refine (implIs ⟨op, a, b, c, d, nm⟩ _).mono ?_
    rintro e w1 ⟨rfl, hb⟩
    rw [HV.out]
    replace X := Lib.hid (X.out.below hb)
    clear hb
    obtain ⟨k0, k1, k2, k3, k4, k5⟩ := X.out.six
    go_wp2_with fail
    refine (implOp op _).mono ?_
    rintro e w2 ⟨rfl, hb⟩
    replace X := Lib.hid (X.out.below hb)
    clear hb k0 k1 k2 k3 k4 k5
    obtain ⟨k0, k1, k2, k3, k4, k5⟩ := X.out.six
    have hww := X.out.1.1
    have G1 := Lib.hid (Box.new w2 #[.int .i64 a, .int .i64 b, .int .i64 c, .int .i64 d] 76)
    replace X := Lib.hid (X.out.below ((Below.refl _ _).alloc (Nat.le_refl _) (.cells #[.int .i64 a, .int .i64 b, .int .i64 c, .int .i64 d] 76)))
    have q0 := X.out.six.1
    go_wp2_with (go_at_call 52; (with_reducible refine (implLay _ _).mono ?_); rintro e w3 ⟨rfl, rfl⟩)
    have R0 : Hid (FmtR w op a b c d nm w2.heap.size 0 ((w2.alloc (.cells #[.int .i64 a, .int .i64 b, .int .i64 c, .int .i64 d] 76)).iter (strB (layW op)) 0)) := Lib.hid ⟨X.out.below ((Below.refl _ _).alloc (Nat.le_refl _) _), G1.out.alloc _, by have h1 := World.iter_heap (w2.alloc (.cells #[.int .i64 a, .int .i64 b, .int .i64 c, .int .i64 d] 76)) (strB (layW op)) 0; rw [World.size_alloc] at h1; exact h1, hww⟩
    clear k0 k1 k2 k3 k4 k5 q0 G1
    go_loopw [3] (fun tv wr => ∃ k : Nat, k ≤ (layW op).length ∧ tv = .string (strB (textK ⟨op, a, b, c, d, nm⟩ k)) ∧ FmtR w op a b c d nm w2.heap.size k wr) (fun _ wr => (layW op).length - wr.iterPos (w2.heap.size + 1))
    case atStart => exact ⟨0, Nat.zero_le _, by rw [textK_zero]; rfl, by simpa using R0.out⟩
    case round =>
      obtain ⟨k, hk, rfl, hR⟩ := hrel
      have HR := Lib.hid hR
      have HP := Lib.hid hR.2.2.1
      clear hR R0 X
      have hts : (strB (textK ⟨op, a, b, c, d, nm⟩ k)).size ≤ 76 := textK_short HV.out k
      by_cases hlt : k < (layW op).length
      · obtain ⟨ch, hch⟩ : ∃ ch, (layW op)[k]? = some ch := ⟨_, List.getElem?_eq_getElem hlt⟩
        rcases lay_letters op ch (List.mem_of_getElem? hch) with rfl | rfl | rfl | rfl | rfl
        · have HN := Lib.hid (text_num (x := ⟨op, a, b, c, d, nm⟩) hch (by decide) (show a ≠ -1 by omega))
          have hnx := fun ty => next_letter HR.out hch (n := 65) rfl (by decide) ty
          have hnn : (a == -1) = false := by simp; omega
          have hnm : (a != -1) = true := by simp; omega
          have HC := Lib.hid (HR.out.at_ (k + 1))
          generalize wr.iterAt (w2.heap.size + 1) (strB (layW op)) (k + 1) = wq at *
          generalize strB (textK ⟨op, a, b, c, d, nm⟩ k) = t at *
          obtain ⟨q0, q1, q2, q3, q4⟩ := HC.out.cells
          have HTq := Lib.hid (HT.out.below HC.out.1.2)
          clear hch
          go_wp2_with (go_at_call 53; (with_reducible refine (implTxt _ _ (by omega) (by omega) HTq.out).mono ?_); rintro e w4 ⟨rfl, hb⟩; have HD := Lib.hid (HC.out.below hb); clear hb)
          go_roundw
          case rel => exact ⟨k + 1, by omega, congrArg Value.string HN.out, HD.out⟩
          case measure => rw [iterPos_of HD.out.2.2.1, iterPos_of HP.out]; omega
        · have HN := Lib.hid (text_num (x := ⟨op, a, b, c, d, nm⟩) hch (by decide) (show b ≠ -1 by omega))
          have hnx := fun ty => next_letter HR.out hch (n := 66) rfl (by decide) ty
          have hnn : (b == -1) = false := by simp; omega
          have hnm : (b != -1) = true := by simp; omega
          have HC := Lib.hid (HR.out.at_ (k + 1))
          generalize wr.iterAt (w2.heap.size + 1) (strB (layW op)) (k + 1) = wq at *
          generalize strB (textK ⟨op, a, b, c, d, nm⟩ k) = t at *
          obtain ⟨q0, q1, q2, q3, q4⟩ := HC.out.cells
          have HTq := Lib.hid (HT.out.below HC.out.1.2)
          clear hch
          go_wp2_with (go_at_call 53; (with_reducible refine (implTxt _ _ (by omega) (by omega) HTq.out).mono ?_); rintro e w4 ⟨rfl, hb⟩; have HD := Lib.hid (HC.out.below hb); clear hb)
          go_roundw
          case rel => exact ⟨k + 1, by omega, congrArg Value.string HN.out, HD.out⟩
          case measure => rw [iterPos_of HD.out.2.2.1, iterPos_of HP.out]; omega
        · by_cases hn : c = -1
          · have HN := Lib.hid (text_skip (x := ⟨op, a, b, c, d, nm⟩) hch (by decide) hn)
            have hnn : (c == -1) = true := by simp [hn]
            have hnm : (c != -1) = false := by simp [hn]
            clear hn
            have hnx := fun ty => next_letter HR.out hch (n := 67) rfl (by decide) ty
            have HC := Lib.hid (HR.out.at_ (k + 1))
            generalize wr.iterAt (w2.heap.size + 1) (strB (layW op)) (k + 1) = wq at *
            generalize strB (textK ⟨op, a, b, c, d, nm⟩ k) = t at *
            obtain ⟨q0, q1, q2, q3, q4⟩ := HC.out.cells
            have HTq := Lib.hid (HT.out.below HC.out.1.2)
            clear hch
            go_wp2_with fail
            go_roundw
            case rel => exact ⟨k + 1, by omega, congrArg Value.string HN.out, HC.out⟩
            case measure => rw [iterPos_of HC.out.2.2.1, iterPos_of HP.out]; omega
          · have HN := Lib.hid (text_num (x := ⟨op, a, b, c, d, nm⟩) hch (by decide) (show c ≠ -1 by exact hn))
            have hnx := fun ty => next_letter HR.out hch (n := 67) rfl (by decide) ty
            have hnn : (c == -1) = false := by simp; omega
            have hnm : (c != -1) = true := by simp; omega
            have HC := Lib.hid (HR.out.at_ (k + 1))
            generalize wr.iterAt (w2.heap.size + 1) (strB (layW op)) (k + 1) = wq at *
            generalize strB (textK ⟨op, a, b, c, d, nm⟩ k) = t at *
            obtain ⟨q0, q1, q2, q3, q4⟩ := HC.out.cells
            have HTq := Lib.hid (HT.out.below HC.out.1.2)
            clear hch
            go_wp2_with (go_at_call 53; (with_reducible refine (implTxt _ _ (by omega) (by omega) HTq.out).mono ?_); rintro e w4 ⟨rfl, hb⟩; have HD := Lib.hid (HC.out.below hb); clear hb)
            go_roundw
            case rel => exact ⟨k + 1, by omega, congrArg Value.string HN.out, HD.out⟩
            case measure => rw [iterPos_of HD.out.2.2.1, iterPos_of HP.out]; omega
        · by_cases hn : d = -1
          · have HN := Lib.hid (text_skip (x := ⟨op, a, b, c, d, nm⟩) hch (by decide) hn)
            have hnn : (d == -1) = true := by simp [hn]
            have hnm : (d != -1) = false := by simp [hn]
            clear hn
            have hnx := fun ty => next_letter HR.out hch (n := 68) rfl (by decide) ty
            have HC := Lib.hid (HR.out.at_ (k + 1))
            generalize wr.iterAt (w2.heap.size + 1) (strB (layW op)) (k + 1) = wq at *
            generalize strB (textK ⟨op, a, b, c, d, nm⟩ k) = t at *
            obtain ⟨q0, q1, q2, q3, q4⟩ := HC.out.cells
            have HTq := Lib.hid (HT.out.below HC.out.1.2)
            clear hch
            go_wp2_with fail
            go_roundw
            case rel => exact ⟨k + 1, by omega, congrArg Value.string HN.out, HC.out⟩
            case measure => rw [iterPos_of HC.out.2.2.1, iterPos_of HP.out]; omega
          · have HN := Lib.hid (text_num (x := ⟨op, a, b, c, d, nm⟩) hch (by decide) (show d ≠ -1 by exact hn))
            have hnx := fun ty => next_letter HR.out hch (n := 68) rfl (by decide) ty
            have hnn : (d == -1) = false := by simp; omega
            have hnm : (d != -1) = true := by simp; omega
            have HC := Lib.hid (HR.out.at_ (k + 1))
            generalize wr.iterAt (w2.heap.size + 1) (strB (layW op)) (k + 1) = wq at *
            generalize strB (textK ⟨op, a, b, c, d, nm⟩ k) = t at *
            obtain ⟨q0, q1, q2, q3, q4⟩ := HC.out.cells
            have HTq := Lib.hid (HT.out.below HC.out.1.2)
            clear hch
            go_wp2_with (go_at_call 53; (with_reducible refine (implTxt _ _ (by omega) (by omega) HTq.out).mono ?_); rintro e w4 ⟨rfl, hb⟩; have HD := Lib.hid (HC.out.below hb); clear hb)
            go_roundw
            case rel => exact ⟨k + 1, by omega, congrArg Value.string HN.out, HD.out⟩
            case measure => rw [iterPos_of HD.out.2.2.1, iterPos_of HP.out]; omega
        · have HN := Lib.hid (text_name (x := ⟨op, a, b, c, d, nm⟩) hch)
          have hnx := fun ty => next_letter HR.out hch (n := 78) rfl (by decide) ty
          have HC := Lib.hid (HR.out.at_ (k + 1))
          generalize wr.iterAt (w2.heap.size + 1) (strB (layW op)) (k + 1) = wq at *
          generalize strB (textK ⟨op, a, b, c, d, nm⟩ k) = t at *
          obtain ⟨q0, q1, q2, q3, q4⟩ := HC.out.cells
          have HTq := Lib.hid (HT.out.below HC.out.1.2)
          clear hch
          go_wp2_with fail
          go_roundw
          case rel => exact ⟨k + 1, by omega, congrArg Value.string HN.out, HC.out⟩
          case measure => rw [iterPos_of HC.out.2.2.1, iterPos_of HP.out]; omega
      · obtain rfl : k = (layW op).length := by omega
        have HN := Lib.hid (text_fmt HV.out)
        have hnx : ∀ ty, (Instr.next (.pointer (some ⟨w2.heap.size + 1, 0, none⟩)) true ty).run Tryz.prog wr = _ := fun ty => run_next_end_at wr (w2.heap.size + 1) (strB (layW op)) _ ty HP.out (by show ¬ (layW op).length < (layW op).toArray.size; rw [List.size_toArray]; omega)
        go_wp2_with fail
        go_ret
        exact GivesS.ret (congrArg strB HN.out) HR.out.1.2
end Go.Proofs.YthgcodbcafpmhaaGreatDoor
