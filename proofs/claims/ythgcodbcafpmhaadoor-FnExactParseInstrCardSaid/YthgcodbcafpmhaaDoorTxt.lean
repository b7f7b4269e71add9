/- Chapter 7 as plain functions: words, the text of an instruction, and that a text has at most one instruction. -/
import Derived.Test.YthgcodbcafpmhaaDoorInsV
import Derived.Test.YthgcodbcafpmhaaDoorNum
namespace Go.Proofs.YthgcodbcafpmhaaDoor
open Go.RowKit Go.Lib
set_option linter.unusedSimpArgs false
/-! ### Words -/
/-- Words, parted by a byte. -/
def joinW (sep : UInt8) : List (List UInt8) → List UInt8
  | [] => []
  | [w] => w
  | w :: v :: ws => w ++ sep :: joinW sep (v :: ws)
/-- The parts between a byte: one at least. -/
def splitB (sep : UInt8) : List UInt8 → List (List UInt8)
  | [] => [[]]
  | c :: s => if c = sep then [] :: splitB sep s else match splitB sep s with
    | [] => [[c]]
    | w :: ws => (c :: w) :: ws
theorem split_ne (sep : UInt8) (s : List UInt8) : splitB sep s ≠ [] := by
  cases s with
  | nil => simp [splitB]
  | cons c s =>
    rw [splitB]
    split
    · simp
    · split <;> simp
theorem split_sep (sep : UInt8) (s : List UInt8) : splitB sep (sep :: s) = [] :: splitB sep s := by rw [splitB, if_pos rfl]
theorem split_byte {sep c : UInt8} {s w : List UInt8} {ws : List (List UInt8)} (hc : c ≠ sep) (h : splitB sep s = w :: ws) : splitB sep (c :: s) = (c :: w) :: ws := by rw [splitB, if_neg hc, h]
theorem split_cons {sep : UInt8} : ∀ {w s : List UInt8}, sep ∉ w → splitB sep (w ++ sep :: s) = w :: splitB sep s
  | [], s, _ => split_sep sep s
  | c :: w, s, h => split_byte (fun e => h (by simp [e])) (split_cons (w := w) (fun e => h (List.mem_cons_of_mem _ e)))
theorem split_last {sep : UInt8} : ∀ {w : List UInt8}, sep ∉ w → splitB sep w = [w]
  | [], _ => rfl
  | c :: w, h => split_byte (fun e => h (by simp [e])) (split_last (w := w) (fun e => h (List.mem_cons_of_mem _ e)))
theorem split_join {sep : UInt8} : ∀ {ws : List (List UInt8)}, ws ≠ [] → (∀ w ∈ ws, sep ∉ w) → splitB sep (joinW sep ws) = ws
  | [], h, _ => absurd rfl h
  | [w], _, h => split_last (h w (by simp))
  | w :: v :: ws, _, h => by rw [joinW, split_cons (h w (by simp)), split_join (by simp) (fun x hx => h x (List.mem_cons_of_mem _ hx))]
theorem join_split (sep : UInt8) : ∀ s : List UInt8, joinW sep (splitB sep s) = s
  | [] => rfl
  | c :: s => by
    have ih := join_split sep s
    have hne := split_ne sep s
    by_cases hc : c = sep
    · subst hc
      rw [split_sep]
      cases hs : splitB c s with
      | nil => exact absurd hs hne
      | cons w ws => rw [joinW, ← hs, ih]; rfl
    · cases hs : splitB sep s with
      | nil => exact absurd hs hne
      | cons w ws =>
        rw [split_byte hc hs]
        rw [hs] at ih
        cases ws with
        | nil => rw [joinW] at ih ⊢; rw [ih]
        | cons v ws => rw [joinW] at ih ⊢; rw [List.cons_append, ih]
/-! ### An instruction's words -/
def nameW (s : ByteArray) : List UInt8 := s.data.toList
def regW (c : Int) : List (List UInt8) := if c = -1 then [] else [itoa c]
def wordsI (x : I) : List (List UInt8) :=
  if x.op = 4 ∨ x.op = 10 then [nameW (opName x.op), itoa x.a]
  else if x.op = 5 then [nameW (opName x.op), itoa x.a, itoa x.b, itoa x.c]
  else if x.op = 6 then [nameW (opName x.op), itoa x.a, itoa x.b, nameW x.name] ++ (regW x.c ++ regW x.d)
  else if x.op = 7 then [nameW (opName x.op), itoa x.a, nameW x.name] ++ (regW x.c ++ regW x.d)
  else [nameW (opName x.op), itoa x.a, itoa x.b]
/-- The text of an instruction; empty if it is not valid. -/
def fmtI (x : I) : List UInt8 := if isI x then joinW 32 (wordsI x) else []
/-! ### What an instruction's words say -/
def numW (l : List (List UInt8)) (i : Nat) : Int := match l[i]? with
  | none => -1
  | some w => if pok w then (dval w : Int) else -1
def opW (w : List UInt8) : Int :=
  if w = nameW (opName 1) then 1 else if w = nameW (opName 2) then 2 else if w = nameW (opName 3) then 3 else if w = nameW (opName 4) then 4 else if w = nameW (opName 5) then 5
  else if w = nameW (opName 6) then 6 else if w = nameW (opName 7) then 7 else if w = nameW (opName 8) then 8 else if w = nameW (opName 9) then 9 else if w = nameW (opName 10) then 10 else 0
def strW (l : List (List UInt8)) (i : Nat) : ByteArray := match l[i]? with
  | none => ⟨#[]⟩
  | some w => ⟨w.toArray⟩
def candI (l : List (List UInt8)) : I :=
  let op := opW (l.headD [])
  if op = 4 ∨ op = 10 then ⟨op, numW l 1, 0, 0, 0, ⟨#[]⟩⟩
  else if op = 5 then ⟨op, numW l 1, numW l 2, numW l 3, 0, ⟨#[]⟩⟩
  else if op = 6 then ⟨op, numW l 1, numW l 2, numW l 4, numW l 5, strW l 3⟩
  else if op = 7 then ⟨op, numW l 1, 0, numW l 3, numW l 4, strW l 2⟩
  else ⟨op, numW l 1, numW l 2, 0, 0, ⟨#[]⟩⟩
/-- The instruction with this text. -/
def parseI (s : List UInt8) : Option I :=
  let x := candI (splitB 32 s)
  if isI x = true ∧ fmtI x = s then some x else none
theorem pok_itoa {n : Int} (h0 : 0 ≤ n) (h1 : n ≤ 1000000000000) : pok (itoa n) = true ∧ (dval (itoa n) : Int) = n := by
  obtain ⟨u, rfl⟩ : ∃ u : Nat, n = u := ⟨n.toNat, by omega⟩
  rw [itoa_inj_nat]
  exact ⟨pok_dec (by omega), by rw [dval_dec]⟩
theorem num_at {l : List (List UInt8)} {i : Nat} {n : Int} (h : l[i]? = some (itoa n)) (h0 : 0 ≤ n) (h1 : n ≤ 1000000000000) : numW l i = n := by
  rw [numW, h]
  have := pok_itoa h0 h1
  simp only [this.1, this.2, if_pos]
theorem num_off {l : List (List UInt8)} {i : Nat} (h : l[i]? = none) : numW l i = -1 := by rw [numW, h]
theorem str_at {l : List (List UInt8)} {i : Nat} {s : ByteArray} (h : l[i]? = some (nameW s)) : strW l i = s := by
  rw [strW, h]
  rfl
theorem itoa_sep {n : Int} (h0 : 0 ≤ n) : ∀ c ∈ itoa n, 48 ≤ c.toNat ∧ c.toNat ≤ 57 := by
  obtain ⟨u, rfl⟩ : ∃ u : Nat, n = u := ⟨n.toNat, by omega⟩
  rw [itoa_inj_nat]
  exact dec_digit u
/-- No blank and no newline. -/
def Calm (w : List UInt8) : Prop := ∀ c ∈ w, 48 ≤ c.toNat
theorem Calm.sp {w : List UInt8} (h : Calm w) : (32 : UInt8) ∉ w := fun hm => absurd (h _ hm) (by decide)
theorem Calm.nl {w : List UInt8} (h : Calm w) : (10 : UInt8) ∉ w := fun hm => absurd (h _ hm) (by decide)
theorem calm_itoa {n : Int} (h0 : 0 ≤ n) : Calm (itoa n) := fun c hc => (itoa_sep h0 c hc).1
theorem calm_name {s : ByteArray} (h : isName s = true) : Calm (nameW s) := by
  simp only [isName, Bool.and_eq_true, List.all_eq_true] at h
  intro c hc
  have := of_decide_eq_true (h.2 c hc)
  omega
theorem calm_op (op : Int) : Calm (nameW (opName op)) := by
  rcases opCases op with rfl | rfl | rfl | rfl | rfl | rfl | rfl | rfl | rfl | rfl | h0
  all_goals first
    | (intro c hc; revert c; decide)
    | (have : opName op = ⟨#[]⟩ := by
        unfold opName
        repeat (rw [if_neg (by omega)])
       rw [this]; intro c hc; cases hc)
theorem op_op {op : Int} (h : 1 ≤ op ∧ op ≤ 10) : opW (nameW (opName op)) = op := by
  rcases opCases op with rfl | rfl | rfl | rfl | rfl | rfl | rfl | rfl | rfl | rfl | h0
  all_goals first | exact absurd h h0 | decide
theorem isReg_ge {n : Int} (h : isReg n = true) : 0 ≤ n ∧ n ≤ 7 := by simpa [isReg, inR] using h
theorem inR_ge {n a b : Int} (h : inR n a b = true) : a ≤ n ∧ n ≤ b := by simpa [inR] using h
theorem two_ge {c d : Int} (h : two c d = true) : (c = -1 ∧ d = -1) ∨ ((0 ≤ c ∧ c ≤ 7) ∧ (d = -1 ∨ (0 ≤ d ∧ d ≤ 7))) := by
  simp only [two, Bool.or_eq_true, Bool.and_eq_true, decide_eq_true_eq] at h
  rcases h with h | ⟨h1, h2 | h2⟩
  · exact Or.inl h
  · exact Or.inr ⟨isReg_ge h1, Or.inl h2⟩
  · exact Or.inr ⟨isReg_ge h1, Or.inr (isReg_ge h2)⟩
theorem no_str {s : ByteArray} (h : s.toList = []) : s = ⟨#[]⟩ := by
  obtain ⟨⟨l⟩⟩ := s
  rw [ByteArray.toList_eq] at h
  have : l = [] := h
  rw [this]
theorem regW_no : regW (-1) = [] := rfl
theorem regW_yes {c : Int} (h : 0 ≤ c) : regW c = [itoa c] := by rw [regW, if_neg (by omega)]
theorem isI_op {x : I} (h : isI x = true) : 1 ≤ x.op ∧ x.op ≤ 10 := by
  rcases opCases x.op with h1 | h1 | h1 | h1 | h1 | h1 | h1 | h1 | h1 | h1 | h0
  all_goals first
    | omega
    | (exfalso
       unfold isI at h
       repeat (rw [if_neg (by omega)] at h)
       cases h)
/-- A valid instruction's words: calm, some, and they say the instruction. -/
theorem words_ok {x : I} (h : isI x = true) : (∀ w ∈ wordsI x, Calm w) ∧ wordsI x ≠ [] ∧ candI (wordsI x) = x := by
  obtain ⟨op, a, b, c, d, nm⟩ := x
  have hop := isI_op h
  simp only at hop
  have h0 := op_op hop
  have hc := calm_op op
  have three : regNum a b c d 0 999999 nm = true ∨ regNum a b c d 0 1 nm = true ∨ regNum a b c d 0 2 nm = true ∨ regNum a b c d 1 12 nm = true → 0 ≤ a ∧ a ≤ 7 ∧ 0 ≤ b ∧ b ≤ 999999 ∧ c = 0 ∧ d = 0 ∧ nm = ⟨#[]⟩ := by
    intro h
    simp only [regNum, plain, Bool.and_eq_true, decide_eq_true_eq] at h
    rcases h with ⟨⟨⟨h1, h2, h3⟩, h4⟩, h5⟩ | ⟨⟨⟨h1, h2, h3⟩, h4⟩, h5⟩ | ⟨⟨⟨h1, h2, h3⟩, h4⟩, h5⟩ | ⟨⟨⟨h1, h2, h3⟩, h4⟩, h5⟩
    all_goals (
      have h6 := isReg_ge h4
      have h7 := inR_ge h5
      exact ⟨h6.1, h6.2, by omega, by omega, h1, h2, no_str h3⟩)
  have one : oneReg a b c d nm = true → 0 ≤ a ∧ a ≤ 7 ∧ b = 0 ∧ c = 0 ∧ d = 0 ∧ nm = ⟨#[]⟩ := by
    intro h
    simp only [oneReg, plain, Bool.and_eq_true, decide_eq_true_eq] at h
    obtain ⟨⟨⟨h1, h2, h3⟩, h4⟩, h5⟩ := h
    have h6 := isReg_ge h4
    exact ⟨h6.1, h6.2, h5, h1, h2, no_str h3⟩
  have threeW : ∀ op : Int, 1 ≤ op ∧ op ≤ 10 → ¬ (op = 4 ∨ op = 10) → ¬ op = 5 → ¬ op = 6 → ¬ op = 7 → ∀ a b : Int, 0 ≤ a ∧ a ≤ 7 ∧ 0 ≤ b ∧ b ≤ 999999 →
      (∀ w ∈ wordsI ⟨op, a, b, 0, 0, ⟨#[]⟩⟩, Calm w) ∧ wordsI ⟨op, a, b, 0, 0, ⟨#[]⟩⟩ ≠ [] ∧ candI (wordsI ⟨op, a, b, 0, 0, ⟨#[]⟩⟩) = ⟨op, a, b, 0, 0, ⟨#[]⟩⟩ := by
    intro op hop n1 n2 n3 n4 a b ⟨h1, h2, h3, h4⟩
    have e : wordsI ⟨op, a, b, 0, 0, ⟨#[]⟩⟩ = [nameW (opName op), itoa a, itoa b] := by
      unfold wordsI
      simp only [n1, n2, n3, n4, if_false]
    rw [e]
    refine ⟨fun w hw => ?_, by simp, ?_⟩
    · simp only [List.mem_cons, List.not_mem_nil, or_false] at hw
      rcases hw with rfl | rfl | rfl
      · exact calm_op op
      · exact calm_itoa h1
      · exact calm_itoa h3
    · unfold candI
      simp only [List.headD_cons, op_op hop, n1, n2, n3, n4, if_false]
      rw [num_at (n := a) rfl h1 (by omega), num_at (n := b) rfl h3 (by omega)]
  have oneW : ∀ op : Int, op = 4 ∨ op = 10 → ∀ a : Int, 0 ≤ a ∧ a ≤ 7 →
      (∀ w ∈ wordsI ⟨op, a, 0, 0, 0, ⟨#[]⟩⟩, Calm w) ∧ wordsI ⟨op, a, 0, 0, 0, ⟨#[]⟩⟩ ≠ [] ∧ candI (wordsI ⟨op, a, 0, 0, 0, ⟨#[]⟩⟩) = ⟨op, a, 0, 0, 0, ⟨#[]⟩⟩ := by
    intro op n1 a ⟨h1, h2⟩
    have e : wordsI ⟨op, a, 0, 0, 0, ⟨#[]⟩⟩ = [nameW (opName op), itoa a] := by
      unfold wordsI
      simp only [n1, if_true]
    rw [e]
    refine ⟨fun w hw => ?_, by simp, ?_⟩
    · simp only [List.mem_cons, List.not_mem_nil, or_false] at hw
      rcases hw with rfl | rfl
      · exact calm_op op
      · exact calm_itoa h1
    · unfold candI
      simp only [List.headD_cons, op_op (show 1 ≤ op ∧ op ≤ 10 by omega), n1, if_true]
      rw [num_at (n := a) rfl h1 (by omega)]
  rcases opCases op with rfl | rfl | rfl | rfl | rfl | rfl | rfl | rfl | rfl | rfl | hn
  · obtain ⟨h1, h2, h3, h4, rfl, rfl, rfl⟩ := three (Or.inl h)
    exact threeW 1 (by omega) (by omega) (by omega) (by omega) (by omega) a b ⟨h1, h2, h3, h4⟩
  · obtain ⟨h1, h2, h3, h4, rfl, rfl, rfl⟩ := three (Or.inr (Or.inl h))
    exact threeW 2 (by omega) (by omega) (by omega) (by omega) (by omega) a b ⟨h1, h2, h3, h4⟩
  · obtain ⟨h1, h2, h3, h4, rfl, rfl, rfl⟩ := three (Or.inr (Or.inr (Or.inl h)))
    exact threeW 3 (by omega) (by omega) (by omega) (by omega) (by omega) a b ⟨h1, h2, h3, h4⟩
  · obtain ⟨h1, h2, rfl, rfl, rfl, rfl⟩ := one h
    exact oneW 4 (by omega) a ⟨h1, h2⟩
  · have h' : addI a b c d nm = true := h
    simp only [addI, Bool.and_eq_true, decide_eq_true_eq] at h'
    obtain ⟨⟨⟨⟨h1, h2⟩, h3⟩, rfl⟩, h5⟩ := h'
    obtain rfl := no_str h5
    have g1 := isReg_ge h1
    have g2 := isReg_ge h2
    have g3 := isReg_ge h3
    show (∀ w ∈ [nameW (opName 5), itoa a, itoa b, itoa c], Calm w) ∧ _ ∧ candI [nameW (opName 5), itoa a, itoa b, itoa c] = _
    refine ⟨fun w hw => ?_, by simp [wordsI], ?_⟩
    · simp only [List.mem_cons, List.not_mem_nil, or_false] at hw
      rcases hw with rfl | rfl | rfl | rfl
      · exact hc
      · exact calm_itoa g1.1
      · exact calm_itoa g2.1
      · exact calm_itoa g3.1
    · unfold candI
      simp only [List.headD_cons, h0]
      rw [num_at (n := a) rfl g1.1 (by omega), num_at (n := b) rfl g2.1 (by omega), num_at (n := c) rfl g3.1 (by omega)]
      rfl
  · have h' : sendI a b c d nm = true := h
    simp only [sendI, Bool.and_eq_true] at h'
    obtain ⟨⟨⟨h1, h2⟩, h3⟩, h4⟩ := h'
    have g1 := isReg_ge h1
    have g2 := isReg_ge h2
    have gn := calm_name h4
    show (∀ w ∈ [nameW (opName 6), itoa a, itoa b, nameW nm] ++ (regW c ++ regW d), Calm w) ∧ _ ∧ candI ([nameW (opName 6), itoa a, itoa b, nameW nm] ++ (regW c ++ regW d)) = _
    refine ⟨fun w hw => ?_, by simp [wordsI], ?_⟩
    · rcases two_ge h3 with ⟨rfl, rfl⟩ | ⟨gc, rfl | gd⟩
      · simp only [regW_no, List.append_nil, List.mem_cons, List.not_mem_nil, or_false] at hw
        rcases hw with rfl | rfl | rfl | rfl
        · exact hc
        · exact calm_itoa g1.1
        · exact calm_itoa g2.1
        · exact gn
      · simp only [regW_no, regW_yes gc.1, List.append_nil, List.cons_append, List.nil_append, List.mem_cons, List.not_mem_nil, or_false] at hw
        rcases hw with rfl | rfl | rfl | rfl | rfl
        · exact hc
        · exact calm_itoa g1.1
        · exact calm_itoa g2.1
        · exact gn
        · exact calm_itoa gc.1
      · simp only [regW_yes gc.1, regW_yes gd.1, List.append_nil, List.cons_append, List.nil_append, List.mem_cons, List.not_mem_nil, or_false] at hw
        rcases hw with rfl | rfl | rfl | rfl | rfl | rfl
        · exact hc
        · exact calm_itoa g1.1
        · exact calm_itoa g2.1
        · exact gn
        · exact calm_itoa gc.1
        · exact calm_itoa gd.1
    · rcases two_ge h3 with ⟨rfl, rfl⟩ | ⟨gc, rfl | gd⟩
      · simp only [regW_no, List.append_nil]
        unfold candI
        simp only [List.headD_cons, h0]
        rw [num_at (n := a) rfl g1.1 (by omega), num_at (n := b) rfl g2.1 (by omega), num_off (i := 4) rfl, num_off (i := 5) rfl, str_at (s := nm) rfl]
        rfl
      · simp only [regW_no, regW_yes gc.1, List.append_nil, List.cons_append, List.nil_append]
        unfold candI
        simp only [List.headD_cons, h0]
        rw [num_at (n := a) rfl g1.1 (by omega), num_at (n := b) rfl g2.1 (by omega), num_at (n := c) (i := 4) rfl gc.1 (by omega), num_off (i := 5) rfl, str_at (s := nm) rfl]
        rfl
      · simp only [regW_yes gc.1, regW_yes gd.1, List.append_nil, List.cons_append, List.nil_append]
        unfold candI
        simp only [List.headD_cons, h0]
        rw [num_at (n := a) rfl g1.1 (by omega), num_at (n := b) rfl g2.1 (by omega), num_at (n := c) (i := 4) rfl gc.1 (by omega), num_at (n := d) (i := 5) rfl gd.1 (by omega), str_at (s := nm) rfl]
        rfl
  · have h' : newI a b c d nm = true := h
    simp only [newI, Bool.and_eq_true, decide_eq_true_eq] at h'
    obtain ⟨⟨⟨h1, rfl⟩, h3⟩, h4⟩ := h'
    have g1 := isReg_ge h1
    have gn := calm_name h4
    show (∀ w ∈ [nameW (opName 7), itoa a, nameW nm] ++ (regW c ++ regW d), Calm w) ∧ _ ∧ candI ([nameW (opName 7), itoa a, nameW nm] ++ (regW c ++ regW d)) = _
    refine ⟨fun w hw => ?_, by simp [wordsI], ?_⟩
    · rcases two_ge h3 with ⟨rfl, rfl⟩ | ⟨gc, rfl | gd⟩
      · simp only [regW_no, List.append_nil, List.mem_cons, List.not_mem_nil, or_false] at hw
        rcases hw with rfl | rfl | rfl
        · exact hc
        · exact calm_itoa g1.1
        · exact gn
      · simp only [regW_no, regW_yes gc.1, List.append_nil, List.cons_append, List.nil_append, List.mem_cons, List.not_mem_nil, or_false] at hw
        rcases hw with rfl | rfl | rfl | rfl
        · exact hc
        · exact calm_itoa g1.1
        · exact gn
        · exact calm_itoa gc.1
      · simp only [regW_yes gc.1, regW_yes gd.1, List.append_nil, List.cons_append, List.nil_append, List.mem_cons, List.not_mem_nil, or_false] at hw
        rcases hw with rfl | rfl | rfl | rfl | rfl
        · exact hc
        · exact calm_itoa g1.1
        · exact gn
        · exact calm_itoa gc.1
        · exact calm_itoa gd.1
    · rcases two_ge h3 with ⟨rfl, rfl⟩ | ⟨gc, rfl | gd⟩
      · simp only [regW_no, List.append_nil]
        unfold candI
        simp only [List.headD_cons, h0]
        rw [num_at (n := a) rfl g1.1 (by omega), num_off (i := 3) rfl, num_off (i := 4) rfl, str_at (s := nm) (i := 2) rfl]
        rfl
      · simp only [regW_no, regW_yes gc.1, List.append_nil, List.cons_append, List.nil_append]
        unfold candI
        simp only [List.headD_cons, h0]
        rw [num_at (n := a) rfl g1.1 (by omega), num_at (n := c) (i := 3) rfl gc.1 (by omega), num_off (i := 4) rfl, str_at (s := nm) (i := 2) rfl]
        rfl
      · simp only [regW_yes gc.1, regW_yes gd.1, List.append_nil, List.cons_append, List.nil_append]
        unfold candI
        simp only [List.headD_cons, h0]
        rw [num_at (n := a) rfl g1.1 (by omega), num_at (n := c) (i := 3) rfl gc.1 (by omega), num_at (n := d) (i := 4) rfl gd.1 (by omega), str_at (s := nm) (i := 2) rfl]
        rfl
  · have h' : setI a b c d nm = true := h
    simp only [setI, plain, Bool.and_eq_true, decide_eq_true_eq] at h'
    obtain ⟨⟨⟨rfl, rfl, h3⟩, h4⟩, h5⟩ := h'
    obtain rfl := no_str h3
    have g1 := inR_ge h4
    have g2 := isReg_ge h5
    exact threeW 8 (by omega) (by omega) (by omega) (by omega) (by omega) a b ⟨by omega, by omega, by omega, by omega⟩
  · obtain ⟨h1, h2, h3, h4, rfl, rfl, rfl⟩ := three (Or.inr (Or.inr (Or.inr h)))
    exact threeW 9 (by omega) (by omega) (by omega) (by omega) (by omega) a b ⟨h1, h2, h3, h4⟩
  · obtain ⟨h1, h2, rfl, rfl, rfl, rfl⟩ := one h
    exact oneW 10 (by omega) a ⟨h1, h2⟩
  · exact absurd hop hn
/-- The words of a valid instruction's text say it. -/
theorem cand_fmt {x : I} (h : isI x = true) : candI (splitB 32 (fmtI x)) = x := by
  have hw := words_ok h
  rw [fmtI, if_pos h, split_join hw.2.1 (fun w hm => (hw.1 w hm).sp)]
  exact hw.2.2
theorem fmtI_inj {x y : I} (hx : isI x = true) (hy : isI y = true) (h : fmtI x = fmtI y) : x = y := by rw [← cand_fmt hx, h, cand_fmt hy]
theorem parse_iff {s : List UInt8} {x : I} : parseI s = some x ↔ isI x = true ∧ fmtI x = s := by
  constructor
  · intro h
    unfold parseI at h
    simp only at h
    split at h
    · rename_i h1
      cases h
      exact h1
    · cases h
  · rintro ⟨h, rfl⟩
    unfold parseI
    rw [cand_fmt h]
    exact if_pos ⟨h, rfl⟩
end Go.Proofs.YthgcodbcafpmhaaDoor
