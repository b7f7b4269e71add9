/- Chapter 7 as plain functions: an instruction's text letter by letter, and how the program reads it; lengths. -/
import Derived.Test.YthgcodbcafpmhaaDoorTxt
namespace Go.Proofs.YthgcodbcafpmhaaDoor
open Go.RowKit Go.Lib
set_option linter.unusedSimpArgs false
set_option linter.unusedVariables false
def toB (l : List UInt8) : ByteArray := ⟨l.toArray⟩
theorem bytes_eq {a b : ByteArray} (h : a.data.toList = b.data.toList) : a = b := by
  apply ByteArray.ext
  exact Array.toList_inj.1 h
theorem toB_list (s : ByteArray) : toB s.data.toList = s := bytes_eq rfl
/-! ### The words of an instruction by letters -/
/-- A letter for each word behind the operation's name: 65 to 68 for A to D, 78 for the name. -/
def layW (op : Int) : List UInt8 :=
  if op = 1 ∨ op = 2 ∨ op = 3 ∨ op = 8 ∨ op = 9 then [65, 66]
  else if op = 4 ∨ op = 10 then [65]
  else if op = 5 then [65, 66, 67]
  else if op = 6 then [65, 66, 78, 67, 68]
  else if op = 7 then [65, 78, 67, 68]
  else []
def numAt (x : I) (c : UInt8) : Int := if c = 65 then x.a else if c = 66 then x.b else if c = 67 then x.c else x.d
def pieceI (x : I) (c : UInt8) : List UInt8 := if c = 78 then 32 :: nameW x.name else if numAt x c = -1 then [] else 32 :: itoa (numAt x c)
/-- The text behind k letters. -/
def textK (x : I) (k : Nat) : List UInt8 := nameW (opName x.op) ++ ((layW x.op).take k).flatMap (pieceI x)
theorem textK_zero (x : I) : textK x 0 = nameW (opName x.op) := by simp [textK]
theorem textK_next {x : I} {k : Nat} {c : UInt8} (h : (layW x.op)[k]? = some c) : textK x (k + 1) = textK x k ++ pieceI x c := by
  rw [textK, List.take_add_one, h, List.flatMap_append, ← List.append_assoc]
  simp [textK]
theorem textK_all {x : I} {k : Nat} (h : (layW x.op).length ≤ k) : textK x k = textK x (layW x.op).length := by
  rw [textK, textK, List.take_of_length_le h, List.take_of_length_le (Nat.le_refl _)]
theorem isI_parts {x : I} (h : isI x = true) : ((0 ≤ x.a ∧ x.a ≤ 999999) ∧ (x.op = 6 ∨ x.op = 7 ∨ (0 ≤ x.c ∧ x.c ≤ 999999))) ∧ (0 ≤ x.b ∧ x.b ≤ 999999) ∧ (-1 ≤ x.c ∧ x.c ≤ 999999) ∧ (-1 ≤ x.d ∧ x.d ≤ 999999) := by
  obtain ⟨op, a, b, c, d, nm⟩ := x
  have hop := isI_op h
  simp only at hop ⊢
  have three : regNum a b c d 0 999999 nm = true ∨ regNum a b c d 0 1 nm = true ∨ regNum a b c d 0 2 nm = true ∨ regNum a b c d 1 12 nm = true → 0 ≤ a ∧ a ≤ 7 ∧ 0 ≤ b ∧ b ≤ 999999 ∧ c = 0 ∧ d = 0 := by
    intro h
    simp only [regNum, plain, Bool.and_eq_true, decide_eq_true_eq] at h
    rcases h with ⟨⟨⟨h1, h2, h3⟩, h4⟩, h5⟩ | ⟨⟨⟨h1, h2, h3⟩, h4⟩, h5⟩ | ⟨⟨⟨h1, h2, h3⟩, h4⟩, h5⟩ | ⟨⟨⟨h1, h2, h3⟩, h4⟩, h5⟩
    all_goals (
      have h6 := isReg_ge h4
      have h7 := inR_ge h5
      exact ⟨h6.1, h6.2, by omega, by omega, h1, h2⟩)
  have one : oneReg a b c d nm = true → 0 ≤ a ∧ a ≤ 7 ∧ b = 0 ∧ c = 0 ∧ d = 0 := by
    intro h
    simp only [oneReg, plain, Bool.and_eq_true, decide_eq_true_eq] at h
    obtain ⟨⟨⟨h1, h2, h3⟩, h4⟩, h5⟩ := h
    have h6 := isReg_ge h4
    exact ⟨h6.1, h6.2, h5, h1, h2⟩
  rcases opCases op with rfl | rfl | rfl | rfl | rfl | rfl | rfl | rfl | rfl | rfl | hn
  · have := three (Or.inl h); omega
  · have := three (Or.inr (Or.inl h)); omega
  · have := three (Or.inr (Or.inr (Or.inl h))); omega
  · have := one h; omega
  · have h' : addI a b c d nm = true := h
    simp only [addI, Bool.and_eq_true, decide_eq_true_eq] at h'
    obtain ⟨⟨⟨⟨h1, h2⟩, h3⟩, rfl⟩, h5⟩ := h'
    have g1 := isReg_ge h1
    have g2 := isReg_ge h2
    have g3 := isReg_ge h3
    omega
  · have h' : sendI a b c d nm = true := h
    simp only [sendI, Bool.and_eq_true] at h'
    obtain ⟨⟨⟨h1, h2⟩, h3⟩, h4⟩ := h'
    have g1 := isReg_ge h1
    have g2 := isReg_ge h2
    rcases two_ge h3 with ⟨rfl, rfl⟩ | ⟨gc, rfl | gd⟩ <;> omega
  · have h' : newI a b c d nm = true := h
    simp only [newI, Bool.and_eq_true, decide_eq_true_eq] at h'
    obtain ⟨⟨⟨h1, rfl⟩, h3⟩, h4⟩ := h'
    have g1 := isReg_ge h1
    rcases two_ge h3 with ⟨rfl, rfl⟩ | ⟨gc, rfl | gd⟩ <;> omega
  · have h' : setI a b c d nm = true := h
    simp only [setI, plain, Bool.and_eq_true, decide_eq_true_eq] at h'
    obtain ⟨⟨⟨rfl, rfl, h3⟩, h4⟩, h5⟩ := h'
    have g1 := inR_ge h4
    have g2 := isReg_ge h5
    omega
  · have := three (Or.inr (Or.inr (Or.inr h))); omega
  · have := one h; omega
  · exact absurd hop hn
theorem text_fmt {x : I} (h : isI x = true) : textK x (layW x.op).length = fmtI x := by
  have hp := isI_parts h
  have hop := isI_op h
  rw [fmtI, if_pos h, textK, List.take_of_length_le (Nat.le_refl _)]
  obtain ⟨op, a, b, c, d, nm⟩ := x
  simp only at hp hop ⊢
  have na : ¬ a = -1 := by omega
  have nb : ¬ b = -1 := by omega
  rcases opCases op with rfl | rfl | rfl | rfl | rfl | rfl | rfl | rfl | rfl | rfl | hn
  all_goals first
    | exact absurd hop hn
    | (simp [wordsI, layW, pieceI, numAt, na, nb, joinW]; done)
    | (have nc : ¬ c = -1 := by omega
       simp [wordsI, layW, pieceI, numAt, na, nb, nc, joinW]; done)
    | (by_cases nc : c = -1 <;> by_cases nd : d = -1 <;> simp [wordsI, layW, pieceI, numAt, na, nb, nc, nd, regW, joinW]; done)
/-! ### Its words read -/
def putI (x : I) (c : UInt8) (w : ByteArray) : I :=
  let n : Int := if pok w.data.toList then (dval w.data.toList : Int) else -1
  if c = 78 then { x with name := w } else if c = 65 then { x with a := n } else if c = 66 then { x with b := n } else if c = 67 then { x with c := n } else { x with d := n }
def readK (op : Int) (l : List (List UInt8)) : Nat → I
  | 0 => ⟨op, 0, 0, 0, 0, ⟨#[]⟩⟩
  | k + 1 => match (layW op)[k]? with
    | none => readK op l k
    | some c => putI (readK op l k) c (strW l (k + 1))
def candP (l : List (List UInt8)) : I := readK (opW (l.headD [])) l (layW (opW (l.headD []))).length
theorem pok_nil : pok [] = false := by
  cases e : pok [] with
  | false => rfl
  | true => exact absurd (pok_len e).1 (by decide)
theorem num_str (l : List (List UInt8)) (i : Nat) : (if pok (strW l i).data.toList then (dval (strW l i).data.toList : Int) else -1) = numW l i := by
  unfold strW numW
  cases l[i]? with
  | none => simp [pok_nil]
  | some w => rfl
theorem opW_cases (w : List UInt8) : opW w = 0 ∨ (1 ≤ opW w ∧ opW w ≤ 10) := by
  unfold opW
  repeat' split
  all_goals omega
theorem cand_prog {l : List (List UInt8)} (h : opW (l.headD []) ≠ 0) : candP l = candI l := by
  have hop := (opW_cases (l.headD [])).resolve_left h
  unfold candP candI
  generalize opW (l.headD []) = op at *
  rcases opCases op with rfl | rfl | rfl | rfl | rfl | rfl | rfl | rfl | rfl | rfl | hn
  all_goals first
    | exact absurd hop hn
    | simp [layW, readK, putI, num_str]
theorem cand_zero {l : List (List UInt8)} (h : opW (l.headD []) = 0) : isI (candP l) = false := by
  have e : (candP l).op = 0 := by
    unfold candP
    rw [h]
    rfl
  cases hv : isI (candP l) with
  | false => rfl
  | true => have := isI_op hv; omega
theorem candI_op (l : List (List UInt8)) : (candI l).op = opW (l.headD []) := by
  unfold candI
  simp only []
  repeat' split
  all_goals rfl
/-- What the program finds is what there is. -/
theorem prog_some {s : List UInt8} (h : isI (candP (splitB 32 s)) = true) (he : fmtI (candP (splitB 32 s)) = s) : parseI s = some (candP (splitB 32 s)) := parse_iff.2 ⟨h, he⟩
theorem prog_none {s : List UInt8} (h : isI (candP (splitB 32 s)) = true → fmtI (candP (splitB 32 s)) ≠ s) : parseI s = none := by
  cases hp : parseI s with
  | none => rfl
  | some x =>
    exfalso
    obtain ⟨hx, hs⟩ := parse_iff.1 hp
    have h1 := cand_fmt hx
    rw [hs] at h1
    by_cases h0 : opW ((splitB 32 s).headD []) = 0
    · have h2 : x.op = 0 := by
        rw [← h1, candI_op]
        exact h0
      have := isI_op hx
      omega
    · rw [cand_prog h0, h1] at h
      exact h hx hs
theorem cand_none {s : List UInt8} (h : isI (candI (splitB 32 s)) = true → fmtI (candI (splitB 32 s)) ≠ s) : parseI s = none := by
  unfold parseI
  simp only
  exact if_neg (fun ⟨h1, h2⟩ => h h1 h2)
/-! ### Lengths -/
theorem itoa_short {n : Int} (h0 : 0 ≤ n) (h1 : n ≤ 1000000000000) : (itoa n).length ≤ 13 := by
  obtain ⟨u, rfl⟩ : ∃ u : Nat, n = u := ⟨n.toNat, by omega⟩
  rw [itoa_inj_nat]
  exact (dec_len u (by omega)).2
theorem name_short {s : ByteArray} (h : isName s = true) : (nameW s).length ≤ 6 := by
  simp only [isName, Bool.and_eq_true] at h
  have h1 := inR_ge h.1
  have : (nameW s).length = s.size := rfl
  omega
theorem opName_short (op : Int) : (nameW (opName op)).length ≤ 6 := by
  rcases opCases op with rfl | rfl | rfl | rfl | rfl | rfl | rfl | rfl | rfl | rfl | h0
  all_goals first
    | decide
    | (have : opName op = ⟨#[]⟩ := by
        unfold opName
        repeat (rw [if_neg (by omega)])
       rw [this]; decide)
theorem isI_name {x : I} (h : isI x = true) : (nameW x.name).length ≤ 6 := by
  obtain ⟨op, a, b, c, d, nm⟩ := x
  have hop := isI_op h
  simp only at hop ⊢
  have hnil : nm.toList = [] → (nameW nm).length ≤ 6 := fun h => by rw [no_str h]; decide
  rcases opCases op with rfl | rfl | rfl | rfl | rfl | rfl | rfl | rfl | rfl | rfl | hn
  all_goals first
    | exact absurd hop hn
    | (refine hnil ?_
       simp only [isI, regNum, oneReg, setI, addI, plain, Bool.and_eq_true, decide_eq_true_eq] at h
       simp at h
       exact h.1.1.2.2)
    | (refine hnil ?_
       have h' : addI a b c d nm = true := h
       simp only [addI, Bool.and_eq_true, decide_eq_true_eq] at h'
       exact h'.2)
    | (have h' : sendI a b c d nm = true := h
       simp only [sendI, Bool.and_eq_true] at h'
       exact name_short h'.2)
    | (have h' : newI a b c d nm = true := h
       simp only [newI, Bool.and_eq_true] at h'
       exact name_short h'.2)
theorem piece_short {x : I} (h : isI x = true) (c : UInt8) : (pieceI x c).length ≤ 14 := by
  have hp := isI_parts h
  have hn := isI_name h
  unfold pieceI
  split
  · rw [List.length_cons]; omega
  · split
    · simp
    · rename_i h1
      rw [List.length_cons]
      have : (itoa (numAt x c)).length ≤ 13 := by
        have hb : 0 ≤ numAt x c ∧ numAt x c ≤ 999999 := by
          have e : -1 ≤ numAt x c ∧ numAt x c ≤ 999999 := by
            unfold numAt
            repeat' split
            all_goals omega
          omega
        exact itoa_short hb.1 (by omega)
      omega
theorem lay_short (op : Int) : (layW op).length ≤ 5 := by
  unfold layW
  repeat' split
  all_goals decide
theorem flat_short {x : I} (h : isI x = true) : ∀ l : List UInt8, (l.flatMap (pieceI x)).length ≤ 14 * l.length
  | [] => by simp
  | c :: l => by
    have h1 := piece_short h c
    have h2 := flat_short h l
    rw [List.flatMap_cons, List.length_append, List.length_cons]
    omega
theorem textK_short {x : I} (h : isI x = true) (k : Nat) : (textK x k).length ≤ 76 := by
  have h1 := opName_short x.op
  have h2 := flat_short h ((layW x.op).take k)
  have h3 := lay_short x.op
  have h4 : ((layW x.op).take k).length ≤ 5 := by rw [List.length_take]; omega
  rw [textK, List.length_append]
  omega
theorem fmtI_short (x : I) : (fmtI x).length ≤ 76 := by
  cases h : isI x with
  | false => unfold fmtI; rw [if_neg (by rw [h]; decide)]; simp
  | true => rw [← text_fmt h]; exact textK_short h _
end Go.Proofs.YthgcodbcafpmhaaDoor
