/- The reference's FormatInstr.
   The program's FormatInstr. -/
import Derived.Test.YtgibhbplgiejpaaGreatInsL
import Derived.Test.YtgibhbplgiejpaaGreatSpecIs
import Derived.Test.YtgibhbplgiejpaaGreatNumA
import Derived.Test.YtgibhbplgiejpaaGreatTxtA
import Derived.Lib.OthersKept
import Derived.Laws.RangeAny
import Derived.WalkSmall
namespace Go.Proofs.YtgibhbplgiejpaaGreat
open Go.RowKit Go.Lib
set_option linter.unusedVariables false
set_option linter.unusedSimpArgs false
/-- A numeral. -/
def txt (n : Int) : ByteArray := ⟨(itoa n).toArray⟩
theorem txt_size {n : Int} (h0 : -1 ≤ n) (h1 : n ≤ 1000000000000) : (txt n).size ≤ 13 := by
  show (itoa n).toArray.size ≤ 13
  rw [List.size_toArray]
  by_cases h : n = -1
  · subst h; exact Nat.le_trans (Nat.le_of_eq (by rw [show itoa (-1) = 45 :: decDigits 1 from rfl]; rw [decDigits_one (by omega)]; rfl)) (show 2 ≤ 13 by omega)
  · exact itoa_short (by omega) h1
theorem txt_list (n : Int) : (txt n).data.toList = itoa n := rfl
theorem specTxt (n : Int) (w : World) (h0 : -1 ≤ n) (h1 : n ≤ 1000000000000) : Calls Tryz.prog 132 #[.int .i64 n] w (GivesS (txt n) w) := by
  rcases Int.lt_trichotomy n 0 with h | h | h
  · exact specFormatInt_neg n w h (by omega)
  · subst h; exact specFormatInt_zero w
  · exact specFormatInt_pos n w h (by omega)
theorem opName_size (op : Int) : (opName op).size ≤ 6 := opName_short op
theorem fmt_is {x : I} {t : ByteArray} (h : isI x = true) (e : t.data.toList = joinW 32 (wordsI x)) : t = ⟨(fmtI x).toArray⟩ := by
  apply bytes_eq
  rw [e, fmtI, if_pos h]
theorem fmt_no {x : I} (h : isI x = false) : (⟨#[]⟩ : ByteArray) = ⟨(fmtI x).toArray⟩ := by rw [fmtI, h]; rfl
set_option maxHeartbeats 8000000 in
theorem specFmt (x : I) (w : World) (hs : x.name.size ≤ 140737488351232) : Calls Tryz.prog 122 #[.agg #[.int .i64 x.op, .int .i64 x.a, .int .i64 x.b, .int .i64 x.c, .int .i64 x.d, .string x.name]] w (GivesS ⟨(fmtI x).toArray⟩ w) := by
  cases hv : isI x with
  | false =>
    have HF := Lib.hid (fmt_no hv)
    have HV := Lib.hid hv
    clear hv
    obtain ⟨op, a, b, c, d, nm⟩ := x
    have X := Lib.hid (Boxed.mk_ w op a b c d nm 32)
    go_enter Tryz.func122, Tryz.ntmps122
    go_wp2_with fail
    refine (specIs ⟨op, a, b, c, d, nm⟩ _ hs).mono ?_
    rintro e w1 ⟨rfl, hb⟩
    rw [HV.out]
    replace X := Lib.hid (X.out.below hb)
    clear hb
    go_wp2_with fail
    go_ret
    exact GivesS.ret HF.out X.out.2
  | true =>
    have hp := isI_parts hv
    have hop := isI_op hv
    have hnm := isI_name hv
    obtain ⟨op, a, b, c, d, nm⟩ := x
    simp only at hp hop hnm hs
    have X := Lib.hid (Boxed.mk_ w op a b c d nm 32)
    have ha := txt_size (n := a) (by omega) (by omega)
    have hb' := txt_size (n := b) (by omega) (by omega)
    have hc' := txt_size (n := c) (by omega) (by omega)
    have hd' := txt_size (n := d) (by omega) (by omega)
    have hon := opName_size op
    have hn6 : nm.size ≤ 6 := hnm
    have hsp : (⟨#[32]⟩ : ByteArray).size ≤ 1 := Nat.le_refl _
    have HV := Lib.hid hv
    have HE : Hid (∀ t : ByteArray, t.data.toList = joinW 32 (wordsI ⟨op, a, b, c, d, nm⟩) → t = ⟨(fmtI ⟨op, a, b, c, d, nm⟩).toArray⟩) := Lib.hid (fun t e => fmt_is hv e)
    clear hv hnm
    rcases opCases op with rfl | rfl | rfl | rfl | rfl | rfl | rfl | rfl | rfl | rfl | hn
    · go_enter Tryz.func122, Tryz.ntmps122
      go_wp2_with fail
      refine (specIs ⟨1, a, b, c, d, nm⟩ _ hs).mono ?_
      rintro e w1 ⟨rfl, hb⟩
      rw [HV.out]
      replace X := Lib.hid (X.out.below hb)
      clear hb
      obtain ⟨k0, k1, k2, k3, k4, k5⟩ := X.out.six
      go_wp2_with (first
        | (go_at_call 130; (with_reducible refine (specOp _ _).mono ?_); rintro e w2 ⟨rfl, hb⟩; replace X := Lib.hid (X.out.below hb); clear hb k0 k1 k2 k3 k4 k5; obtain ⟨k0, k1, k2, k3, k4, k5⟩ := X.out.six)
        | (go_at_call 132; (with_reducible refine (specTxt _ _ (by omega) (by omega)).mono ?_); rintro e w2 ⟨rfl, hb⟩; replace X := Lib.hid (X.out.below hb); clear hb k0 k1 k2 k3 k4 k5; obtain ⟨k0, k1, k2, k3, k4, k5⟩ := X.out.six))
      go_ret
      exact GivesS.ret (HE.out _ (by simp [wordsI, joinW, nameW, txt, ByteArray.data_append, regW])) X.out.2
    · go_enter Tryz.func122, Tryz.ntmps122
      go_wp2_with fail
      refine (specIs ⟨2, a, b, c, d, nm⟩ _ hs).mono ?_
      rintro e w1 ⟨rfl, hb⟩
      rw [HV.out]
      replace X := Lib.hid (X.out.below hb)
      clear hb
      obtain ⟨k0, k1, k2, k3, k4, k5⟩ := X.out.six
      go_wp2_with (first
        | (go_at_call 130; (with_reducible refine (specOp _ _).mono ?_); rintro e w2 ⟨rfl, hb⟩; replace X := Lib.hid (X.out.below hb); clear hb k0 k1 k2 k3 k4 k5; obtain ⟨k0, k1, k2, k3, k4, k5⟩ := X.out.six)
        | (go_at_call 132; (with_reducible refine (specTxt _ _ (by omega) (by omega)).mono ?_); rintro e w2 ⟨rfl, hb⟩; replace X := Lib.hid (X.out.below hb); clear hb k0 k1 k2 k3 k4 k5; obtain ⟨k0, k1, k2, k3, k4, k5⟩ := X.out.six))
      go_ret
      exact GivesS.ret (HE.out _ (by simp [wordsI, joinW, nameW, txt, ByteArray.data_append, regW])) X.out.2
    · go_enter Tryz.func122, Tryz.ntmps122
      go_wp2_with fail
      refine (specIs ⟨3, a, b, c, d, nm⟩ _ hs).mono ?_
      rintro e w1 ⟨rfl, hb⟩
      rw [HV.out]
      replace X := Lib.hid (X.out.below hb)
      clear hb
      obtain ⟨k0, k1, k2, k3, k4, k5⟩ := X.out.six
      go_wp2_with (first
        | (go_at_call 130; (with_reducible refine (specOp _ _).mono ?_); rintro e w2 ⟨rfl, hb⟩; replace X := Lib.hid (X.out.below hb); clear hb k0 k1 k2 k3 k4 k5; obtain ⟨k0, k1, k2, k3, k4, k5⟩ := X.out.six)
        | (go_at_call 132; (with_reducible refine (specTxt _ _ (by omega) (by omega)).mono ?_); rintro e w2 ⟨rfl, hb⟩; replace X := Lib.hid (X.out.below hb); clear hb k0 k1 k2 k3 k4 k5; obtain ⟨k0, k1, k2, k3, k4, k5⟩ := X.out.six))
      go_ret
      exact GivesS.ret (HE.out _ (by simp [wordsI, joinW, nameW, txt, ByteArray.data_append, regW])) X.out.2
    · go_enter Tryz.func122, Tryz.ntmps122
      go_wp2_with fail
      refine (specIs ⟨4, a, b, c, d, nm⟩ _ hs).mono ?_
      rintro e w1 ⟨rfl, hb⟩
      rw [HV.out]
      replace X := Lib.hid (X.out.below hb)
      clear hb
      obtain ⟨k0, k1, k2, k3, k4, k5⟩ := X.out.six
      go_wp2_with (first
        | (go_at_call 130; (with_reducible refine (specOp _ _).mono ?_); rintro e w2 ⟨rfl, hb⟩; replace X := Lib.hid (X.out.below hb); clear hb k0 k1 k2 k3 k4 k5; obtain ⟨k0, k1, k2, k3, k4, k5⟩ := X.out.six)
        | (go_at_call 132; (with_reducible refine (specTxt _ _ (by omega) (by omega)).mono ?_); rintro e w2 ⟨rfl, hb⟩; replace X := Lib.hid (X.out.below hb); clear hb k0 k1 k2 k3 k4 k5; obtain ⟨k0, k1, k2, k3, k4, k5⟩ := X.out.six))
      go_ret
      exact GivesS.ret (HE.out _ (by simp [wordsI, joinW, nameW, txt, ByteArray.data_append, regW])) X.out.2
    · go_enter Tryz.func122, Tryz.ntmps122
      go_wp2_with fail
      refine (specIs ⟨5, a, b, c, d, nm⟩ _ hs).mono ?_
      rintro e w1 ⟨rfl, hb⟩
      rw [HV.out]
      replace X := Lib.hid (X.out.below hb)
      clear hb
      obtain ⟨k0, k1, k2, k3, k4, k5⟩ := X.out.six
      go_wp2_with (first
        | (go_at_call 130; (with_reducible refine (specOp _ _).mono ?_); rintro e w2 ⟨rfl, hb⟩; replace X := Lib.hid (X.out.below hb); clear hb k0 k1 k2 k3 k4 k5; obtain ⟨k0, k1, k2, k3, k4, k5⟩ := X.out.six)
        | (go_at_call 132; (with_reducible refine (specTxt _ _ (by omega) (by omega)).mono ?_); rintro e w2 ⟨rfl, hb⟩; replace X := Lib.hid (X.out.below hb); clear hb k0 k1 k2 k3 k4 k5; obtain ⟨k0, k1, k2, k3, k4, k5⟩ := X.out.six))
      go_ret
      exact GivesS.ret (HE.out _ (by simp [wordsI, joinW, nameW, txt, ByteArray.data_append, regW])) X.out.2
    · by_cases hc : c = -1
      · subst hc
        by_cases hd : d = -1
        · subst hd
          go_enter Tryz.func122, Tryz.ntmps122
          go_wp2_with fail
          refine (specIs ⟨6, a, b, (-1), (-1), nm⟩ _ hs).mono ?_
          rintro e w1 ⟨rfl, hb⟩
          rw [HV.out]
          replace X := Lib.hid (X.out.below hb)
          clear hb
          obtain ⟨k0, k1, k2, k3, k4, k5⟩ := X.out.six
          go_wp2_with (first
            | (go_at_call 130; (with_reducible refine (specOp _ _).mono ?_); rintro e w2 ⟨rfl, hb⟩; replace X := Lib.hid (X.out.below hb); clear hb k0 k1 k2 k3 k4 k5; obtain ⟨k0, k1, k2, k3, k4, k5⟩ := X.out.six)
            | (go_at_call 132; (with_reducible refine (specTxt _ _ (by omega) (by omega)).mono ?_); rintro e w2 ⟨rfl, hb⟩; replace X := Lib.hid (X.out.below hb); clear hb k0 k1 k2 k3 k4 k5; obtain ⟨k0, k1, k2, k3, k4, k5⟩ := X.out.six))
          go_ret
          exact GivesS.ret (HE.out _ (by simp [wordsI, joinW, nameW, txt, ByteArray.data_append, regW])) X.out.2
        · have hdb : (d == -1) = false := by simpa using hd
          have hdn : (d != -1) = true := by simpa using hd
          have HDD := Lib.hid hd
          clear hd
          go_enter Tryz.func122, Tryz.ntmps122
          go_wp2_with fail
          refine (specIs ⟨6, a, b, (-1), d, nm⟩ _ hs).mono ?_
          rintro e w1 ⟨rfl, hb⟩
          rw [HV.out]
          replace X := Lib.hid (X.out.below hb)
          clear hb
          obtain ⟨k0, k1, k2, k3, k4, k5⟩ := X.out.six
          go_wp2_with (first
            | (go_at_call 130; (with_reducible refine (specOp _ _).mono ?_); rintro e w2 ⟨rfl, hb⟩; replace X := Lib.hid (X.out.below hb); clear hb k0 k1 k2 k3 k4 k5; obtain ⟨k0, k1, k2, k3, k4, k5⟩ := X.out.six)
            | (go_at_call 132; (with_reducible refine (specTxt _ _ (by omega) (by omega)).mono ?_); rintro e w2 ⟨rfl, hb⟩; replace X := Lib.hid (X.out.below hb); clear hb k0 k1 k2 k3 k4 k5; obtain ⟨k0, k1, k2, k3, k4, k5⟩ := X.out.six))
          go_ret
          exact GivesS.ret (HE.out _ (by simp [wordsI, joinW, nameW, txt, ByteArray.data_append, regW, HDD.out])) X.out.2
      · have hcb : (c == -1) = false := by simpa using hc
        have hcn : (c != -1) = true := by simpa using hc
        have HCC := Lib.hid hc
        clear hc
        by_cases hd : d = -1
        · subst hd
          go_enter Tryz.func122, Tryz.ntmps122
          go_wp2_with fail
          refine (specIs ⟨6, a, b, c, (-1), nm⟩ _ hs).mono ?_
          rintro e w1 ⟨rfl, hb⟩
          rw [HV.out]
          replace X := Lib.hid (X.out.below hb)
          clear hb
          obtain ⟨k0, k1, k2, k3, k4, k5⟩ := X.out.six
          go_wp2_with (first
            | (go_at_call 130; (with_reducible refine (specOp _ _).mono ?_); rintro e w2 ⟨rfl, hb⟩; replace X := Lib.hid (X.out.below hb); clear hb k0 k1 k2 k3 k4 k5; obtain ⟨k0, k1, k2, k3, k4, k5⟩ := X.out.six)
            | (go_at_call 132; (with_reducible refine (specTxt _ _ (by omega) (by omega)).mono ?_); rintro e w2 ⟨rfl, hb⟩; replace X := Lib.hid (X.out.below hb); clear hb k0 k1 k2 k3 k4 k5; obtain ⟨k0, k1, k2, k3, k4, k5⟩ := X.out.six))
          go_ret
          exact GivesS.ret (HE.out _ (by simp [wordsI, joinW, nameW, txt, ByteArray.data_append, regW, HCC.out])) X.out.2
        · have hdb : (d == -1) = false := by simpa using hd
          have hdn : (d != -1) = true := by simpa using hd
          have HDD := Lib.hid hd
          clear hd
          go_enter Tryz.func122, Tryz.ntmps122
          go_wp2_with fail
          refine (specIs ⟨6, a, b, c, d, nm⟩ _ hs).mono ?_
          rintro e w1 ⟨rfl, hb⟩
          rw [HV.out]
          replace X := Lib.hid (X.out.below hb)
          clear hb
          obtain ⟨k0, k1, k2, k3, k4, k5⟩ := X.out.six
          go_wp2_with (first
            | (go_at_call 130; (with_reducible refine (specOp _ _).mono ?_); rintro e w2 ⟨rfl, hb⟩; replace X := Lib.hid (X.out.below hb); clear hb k0 k1 k2 k3 k4 k5; obtain ⟨k0, k1, k2, k3, k4, k5⟩ := X.out.six)
            | (go_at_call 132; (with_reducible refine (specTxt _ _ (by omega) (by omega)).mono ?_); rintro e w2 ⟨rfl, hb⟩; replace X := Lib.hid (X.out.below hb); clear hb k0 k1 k2 k3 k4 k5; obtain ⟨k0, k1, k2, k3, k4, k5⟩ := X.out.six))
          go_ret
          exact GivesS.ret (HE.out _ (by simp [wordsI, joinW, nameW, txt, ByteArray.data_append, regW, HCC.out, HDD.out])) X.out.2
    · by_cases hc : c = -1
      · subst hc
        by_cases hd : d = -1
        · subst hd
          go_enter Tryz.func122, Tryz.ntmps122
          go_wp2_with fail
          refine (specIs ⟨7, a, b, (-1), (-1), nm⟩ _ hs).mono ?_
          rintro e w1 ⟨rfl, hb⟩
          rw [HV.out]
          replace X := Lib.hid (X.out.below hb)
          clear hb
          obtain ⟨k0, k1, k2, k3, k4, k5⟩ := X.out.six
          go_wp2_with (first
            | (go_at_call 130; (with_reducible refine (specOp _ _).mono ?_); rintro e w2 ⟨rfl, hb⟩; replace X := Lib.hid (X.out.below hb); clear hb k0 k1 k2 k3 k4 k5; obtain ⟨k0, k1, k2, k3, k4, k5⟩ := X.out.six)
            | (go_at_call 132; (with_reducible refine (specTxt _ _ (by omega) (by omega)).mono ?_); rintro e w2 ⟨rfl, hb⟩; replace X := Lib.hid (X.out.below hb); clear hb k0 k1 k2 k3 k4 k5; obtain ⟨k0, k1, k2, k3, k4, k5⟩ := X.out.six))
          go_ret
          exact GivesS.ret (HE.out _ (by simp [wordsI, joinW, nameW, txt, ByteArray.data_append, regW])) X.out.2
        · have hdb : (d == -1) = false := by simpa using hd
          have hdn : (d != -1) = true := by simpa using hd
          have HDD := Lib.hid hd
          clear hd
          go_enter Tryz.func122, Tryz.ntmps122
          go_wp2_with fail
          refine (specIs ⟨7, a, b, (-1), d, nm⟩ _ hs).mono ?_
          rintro e w1 ⟨rfl, hb⟩
          rw [HV.out]
          replace X := Lib.hid (X.out.below hb)
          clear hb
          obtain ⟨k0, k1, k2, k3, k4, k5⟩ := X.out.six
          go_wp2_with (first
            | (go_at_call 130; (with_reducible refine (specOp _ _).mono ?_); rintro e w2 ⟨rfl, hb⟩; replace X := Lib.hid (X.out.below hb); clear hb k0 k1 k2 k3 k4 k5; obtain ⟨k0, k1, k2, k3, k4, k5⟩ := X.out.six)
            | (go_at_call 132; (with_reducible refine (specTxt _ _ (by omega) (by omega)).mono ?_); rintro e w2 ⟨rfl, hb⟩; replace X := Lib.hid (X.out.below hb); clear hb k0 k1 k2 k3 k4 k5; obtain ⟨k0, k1, k2, k3, k4, k5⟩ := X.out.six))
          go_ret
          exact GivesS.ret (HE.out _ (by simp [wordsI, joinW, nameW, txt, ByteArray.data_append, regW, HDD.out])) X.out.2
      · have hcb : (c == -1) = false := by simpa using hc
        have hcn : (c != -1) = true := by simpa using hc
        have HCC := Lib.hid hc
        clear hc
        by_cases hd : d = -1
        · subst hd
          go_enter Tryz.func122, Tryz.ntmps122
          go_wp2_with fail
          refine (specIs ⟨7, a, b, c, (-1), nm⟩ _ hs).mono ?_
          rintro e w1 ⟨rfl, hb⟩
          rw [HV.out]
          replace X := Lib.hid (X.out.below hb)
          clear hb
          obtain ⟨k0, k1, k2, k3, k4, k5⟩ := X.out.six
          go_wp2_with (first
            | (go_at_call 130; (with_reducible refine (specOp _ _).mono ?_); rintro e w2 ⟨rfl, hb⟩; replace X := Lib.hid (X.out.below hb); clear hb k0 k1 k2 k3 k4 k5; obtain ⟨k0, k1, k2, k3, k4, k5⟩ := X.out.six)
            | (go_at_call 132; (with_reducible refine (specTxt _ _ (by omega) (by omega)).mono ?_); rintro e w2 ⟨rfl, hb⟩; replace X := Lib.hid (X.out.below hb); clear hb k0 k1 k2 k3 k4 k5; obtain ⟨k0, k1, k2, k3, k4, k5⟩ := X.out.six))
          go_ret
          exact GivesS.ret (HE.out _ (by simp [wordsI, joinW, nameW, txt, ByteArray.data_append, regW, HCC.out])) X.out.2
        · have hdb : (d == -1) = false := by simpa using hd
          have hdn : (d != -1) = true := by simpa using hd
          have HDD := Lib.hid hd
          clear hd
          go_enter Tryz.func122, Tryz.ntmps122
          go_wp2_with fail
          refine (specIs ⟨7, a, b, c, d, nm⟩ _ hs).mono ?_
          rintro e w1 ⟨rfl, hb⟩
          rw [HV.out]
          replace X := Lib.hid (X.out.below hb)
          clear hb
          obtain ⟨k0, k1, k2, k3, k4, k5⟩ := X.out.six
          go_wp2_with (first
            | (go_at_call 130; (with_reducible refine (specOp _ _).mono ?_); rintro e w2 ⟨rfl, hb⟩; replace X := Lib.hid (X.out.below hb); clear hb k0 k1 k2 k3 k4 k5; obtain ⟨k0, k1, k2, k3, k4, k5⟩ := X.out.six)
            | (go_at_call 132; (with_reducible refine (specTxt _ _ (by omega) (by omega)).mono ?_); rintro e w2 ⟨rfl, hb⟩; replace X := Lib.hid (X.out.below hb); clear hb k0 k1 k2 k3 k4 k5; obtain ⟨k0, k1, k2, k3, k4, k5⟩ := X.out.six))
          go_ret
          exact GivesS.ret (HE.out _ (by simp [wordsI, joinW, nameW, txt, ByteArray.data_append, regW, HCC.out, HDD.out])) X.out.2
    · go_enter Tryz.func122, Tryz.ntmps122
      go_wp2_with fail
      refine (specIs ⟨8, a, b, c, d, nm⟩ _ hs).mono ?_
      rintro e w1 ⟨rfl, hb⟩
      rw [HV.out]
      replace X := Lib.hid (X.out.below hb)
      clear hb
      obtain ⟨k0, k1, k2, k3, k4, k5⟩ := X.out.six
      go_wp2_with (first
        | (go_at_call 130; (with_reducible refine (specOp _ _).mono ?_); rintro e w2 ⟨rfl, hb⟩; replace X := Lib.hid (X.out.below hb); clear hb k0 k1 k2 k3 k4 k5; obtain ⟨k0, k1, k2, k3, k4, k5⟩ := X.out.six)
        | (go_at_call 132; (with_reducible refine (specTxt _ _ (by omega) (by omega)).mono ?_); rintro e w2 ⟨rfl, hb⟩; replace X := Lib.hid (X.out.below hb); clear hb k0 k1 k2 k3 k4 k5; obtain ⟨k0, k1, k2, k3, k4, k5⟩ := X.out.six))
      go_ret
      exact GivesS.ret (HE.out _ (by simp [wordsI, joinW, nameW, txt, ByteArray.data_append, regW])) X.out.2
    · go_enter Tryz.func122, Tryz.ntmps122
      go_wp2_with fail
      refine (specIs ⟨9, a, b, c, d, nm⟩ _ hs).mono ?_
      rintro e w1 ⟨rfl, hb⟩
      rw [HV.out]
      replace X := Lib.hid (X.out.below hb)
      clear hb
      obtain ⟨k0, k1, k2, k3, k4, k5⟩ := X.out.six
      go_wp2_with (first
        | (go_at_call 130; (with_reducible refine (specOp _ _).mono ?_); rintro e w2 ⟨rfl, hb⟩; replace X := Lib.hid (X.out.below hb); clear hb k0 k1 k2 k3 k4 k5; obtain ⟨k0, k1, k2, k3, k4, k5⟩ := X.out.six)
        | (go_at_call 132; (with_reducible refine (specTxt _ _ (by omega) (by omega)).mono ?_); rintro e w2 ⟨rfl, hb⟩; replace X := Lib.hid (X.out.below hb); clear hb k0 k1 k2 k3 k4 k5; obtain ⟨k0, k1, k2, k3, k4, k5⟩ := X.out.six))
      go_ret
      exact GivesS.ret (HE.out _ (by simp [wordsI, joinW, nameW, txt, ByteArray.data_append, regW])) X.out.2
    · go_enter Tryz.func122, Tryz.ntmps122
      go_wp2_with fail
      refine (specIs ⟨10, a, b, c, d, nm⟩ _ hs).mono ?_
      rintro e w1 ⟨rfl, hb⟩
      rw [HV.out]
      replace X := Lib.hid (X.out.below hb)
      clear hb
      obtain ⟨k0, k1, k2, k3, k4, k5⟩ := X.out.six
      go_wp2_with (first
        | (go_at_call 130; (with_reducible refine (specOp _ _).mono ?_); rintro e w2 ⟨rfl, hb⟩; replace X := Lib.hid (X.out.below hb); clear hb k0 k1 k2 k3 k4 k5; obtain ⟨k0, k1, k2, k3, k4, k5⟩ := X.out.six)
        | (go_at_call 132; (with_reducible refine (specTxt _ _ (by omega) (by omega)).mono ?_); rintro e w2 ⟨rfl, hb⟩; replace X := Lib.hid (X.out.below hb); clear hb k0 k1 k2 k3 k4 k5; obtain ⟨k0, k1, k2, k3, k4, k5⟩ := X.out.six))
      go_ret
      exact GivesS.ret (HE.out _ (by simp [wordsI, joinW, nameW, txt, ByteArray.data_append, regW])) X.out.2
    · exact absurd hop hn
end Go.Proofs.YtgibhbplgiejpaaGreat
namespace Go.Proofs.YtgibhbplgiejpaaGreat
open Go.RowKit Go.Lib
set_option linter.unusedVariables false
set_option linter.unusedSimpArgs false
/-- A string comes back, and nothing turns. -/
def SameS (s : ByteArray) (w : World) (e : Ending) (w' : World) : Prop := e = .returned (.string s) ∧ w = w'
theorem SameS.ret {s t : ByteArray} {w : World} (h : s = t) : SameS t w (.returned (.string s)) w := ⟨by rw [h], rfl⟩
theorem lay_no {op : Int} (h : ¬ (1 ≤ op ∧ op ≤ 10)) : (⟨#[]⟩ : ByteArray) = strB (layW op) := by
  unfold layW
  repeat (rw [if_neg (by omega)])
  rfl
/-- The argument's box, the four numbers and the iterator. -/
def FmtR (W : World) (op a b c d : Int) (nm : ByteArray) (g k : Nat) (wr : World) : Prop :=
  Boxed W op a b c d nm wr ∧ Box g [.int .i64 a, .int .i64 b, .int .i64 c, .int .i64 d] wr ∧ wr.heap[g + 1]? = some (.stringIter (strB (layW op)) k) ∧ W.heap.size < g
section
variable {W wr w' : World} {op a b c d : Int} {nm : ByteArray} {g k : Nat}
theorem Box.iterAt {b k : Nat} {cs : List Value} (h : Box b cs wr) (hk : b ≠ k) (s : ByteArray) (pos : Nat) : Box b cs (wr.iterAt k s pos) :=
  ⟨by rw [iterAt_size]; exact h.1, fun i v hv => (World.cell?_of_block (w := wr) (a := ⟨b, i, none⟩) (iterAt_other wr k b s pos hk)).trans (h.2 i v hv)⟩
theorem FmtR.at_ (h : FmtR W op a b c d nm g k wr) (k' : Nat) : FmtR W op a b c d nm g k' (wr.iterAt (g + 1) (strB (layW op)) k') :=
  ⟨⟨h.1.1.iterAt (by have := h.2.2.2; omega) _ _, below_iterAt h.1.2 (by have := h.2.2.2; omega) _ _⟩, h.2.1.iterAt (by omega) _ _, iterAt_heap _ _ _ k k' h.2.2.1, h.2.2.2⟩
theorem FmtR.below (h : FmtR W op a b c d nm g k wr) (hb : Below wr.heap.size wr w') : FmtR W op a b c d nm g k w' :=
  ⟨h.1.below hb, h.2.1.below hb, (hb.block _ (Array.getElem?_eq_some_iff.1 h.2.2.1).1).trans h.2.2.1, h.2.2.2⟩
theorem FmtR.cells (h : FmtR W op a b c d nm g k wr) : wr.cell? ⟨g, 0, none⟩ = some (.int .i64 a) ∧ wr.cell? ⟨g, 1, none⟩ = some (.int .i64 b) ∧ wr.cell? ⟨g, 2, none⟩ = some (.int .i64 c) ∧ wr.cell? ⟨g, 3, none⟩ = some (.int .i64 d) ∧ wr.cell? ⟨W.heap.size, 5, none⟩ = some (.string nm) :=
  ⟨h.2.1.2 0 _ rfl, h.2.1.2 1 _ rfl, h.2.1.2 2 _ rfl, h.2.1.2 3 _ rfl, h.1.six.2.2.2.2.2⟩
end
theorem lay_letters (op : Int) : ∀ c ∈ layW op, c = 65 ∨ c = 66 ∨ c = 67 ∨ c = 68 ∨ c = 78 := by
  rcases opCases op with rfl | rfl | rfl | rfl | rfl | rfl | rfl | rfl | rfl | rfl | h
  all_goals first
  | (intro c hc
     have : layW op = [] := by
       unfold layW
       repeat (rw [if_neg (by omega)])
     rw [this] at hc
     cases hc)
  | decide
theorem textK_opt {x : I} (h : isI x = true) (k : Nat) : ∃ t, strB (textK x k) = t ∧ t.size ≤ 76 := ⟨_, rfl, textK_short h k⟩
theorem text_name {x : I} {k : Nat} (h : (layW x.op)[k]? = some 78) : strB (textK x k) ++ (⟨#[32]⟩ ++ x.name) = strB (textK x (k + 1)) := by
  apply bytes_eq
  rw [textK_next h]
  simp [ByteArray.data_append, strB, pieceI, nameW]
theorem text_num {x : I} {k : Nat} {c : UInt8} (h : (layW x.op)[k]? = some c) (hc : c ≠ 78) (hn : numAt x c ≠ -1) : strB (textK x k) ++ (⟨#[32]⟩ ++ txt (numAt x c)) = strB (textK x (k + 1)) := by
  apply bytes_eq
  rw [textK_next h]
  simp [ByteArray.data_append, strB, pieceI, hc, hn, txt]
theorem text_skip {x : I} {k : Nat} {c : UInt8} (h : (layW x.op)[k]? = some c) (hc : c ≠ 78) (hn : numAt x c = -1) : strB (textK x k) = strB (textK x (k + 1)) := by
  rw [textK_next h]
  simp [pieceI, hc, hn]
theorem next_letter {W wr : World} {op a b c d : Int} {nm : ByteArray} {g k : Nat} (h : FmtR W op a b c d nm g k wr) {ch : UInt8} {n : Int} (hc : (layW op)[k]? = some ch) (hn : (ch.toNat : Int) = n) (ha : ch.toNat < 128) (ty : TypeId) :
    (Instr.next (.pointer (some ⟨g + 1, 0, none⟩)) true ty).run Tryz.prog wr = .ok (.tuple #[.bool true, .int .i64 k, .int .i32 n]) (wr.iterAt (g + 1) (strB (layW op)) (k + 1)) := by
  have hlt : k < (strB (layW op)).size := by
    show k < (layW op).toArray.size
    rw [List.size_toArray]
    exact (List.getElem?_eq_some_iff.1 hc).1
  have e : (strB (layW op))[k]'hlt = ch := by
    have h1 := (List.getElem?_eq_some_iff.1 hc).2
    exact h1
  rw [run_next_ascii_at wr (g + 1) (strB (layW op)) k ty h.2.2.1 hlt (by rw [e]; exact ha), e, hn]
end Go.Proofs.YtgibhbplgiejpaaGreat
