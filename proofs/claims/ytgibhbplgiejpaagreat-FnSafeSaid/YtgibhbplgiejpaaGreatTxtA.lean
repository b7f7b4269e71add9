/- Of no program: decimal numerals: the value of a list of digits, when a list is a numeral of a number up to 1000000000000, and that strconv.Atoi's function gives it. No condition.
   Chapter 7 as plain functions: words, the text of an instruction, and that a text has at most one instruction.
   Chapter 7 as plain functions: an instruction's text letter by letter, and how the program reads it; lengths. -/
import Derived.Lib.ItoaLen
import Derived.Lib.AtoiAll
import Derived.Test.YtgibhbplgiejpaaGreatInsA
namespace Go.Proofs.YtgibhbplgiejpaaGreat
open Go.Lib

theorem itoa_inj_nat {u : Nat} : itoa (u : Int) = decDigits u := itoa_nonneg u

/-- One digit more. -/
def dstep (a : Nat) (c : UInt8) : Nat := 10 * a + (c.toNat - 48)
/-- The value of a list of digits. -/
def dval (l : List UInt8) : Nat := l.foldl dstep 0
theorem dval_nil : dval [] = 0 := rfl
theorem dval_snoc (l : List UInt8) (c : UInt8) : dval (l ++ [c]) = 10 * dval l + (c.toNat - 48) := by
  unfold dval
  rw [List.foldl_append]
  rfl
theorem dec_big {u : Nat} (h : ¬ u < 10) : decDigits u = decDigits (u / 10) ++ [UInt8.ofNat (48 + u % 10)] := by rw [decDigits, dif_neg h]
theorem byte_nat {u : Nat} (h : u < 10) : (UInt8.ofNat (48 + u)).toNat = 48 + u := by simp; omega
theorem dval_dec (u : Nat) : dval (decDigits u) = u := by
  induction u using Nat.strongRecOn with
  | _ u ih =>
    by_cases h : u < 10
    · rw [decDigits_one h]
      have e := dval_snoc [] (UInt8.ofNat (48 + u))
      rw [List.nil_append, dval_nil, byte_nat h] at e
      omega
    · rw [dec_big h, dval_snoc, ih (u / 10) (by omega), byte_nat (by omega)]
      omega
theorem dec_digit (u : Nat) : ∀ c ∈ decDigits u, 48 ≤ c.toNat ∧ c.toNat ≤ 57 := by
  induction u using Nat.strongRecOn with
  | _ u ih =>
    by_cases h : u < 10
    · rw [decDigits_one h]
      intro c hc
      obtain rfl : c = UInt8.ofNat (48 + u) := by simpa using hc
      rw [byte_nat h]; omega
    · rw [dec_big h]
      intro c hc
      rcases List.mem_append.1 hc with h1 | h1
      · exact ih (u / 10) (by omega) c h1
      · obtain rfl : c = UInt8.ofNat (48 + u % 10) := by simpa using h1
        rw [byte_nat (by omega)]; omega
theorem dec_len (u : Nat) (h : u ≤ 1000000000000) : 1 ≤ (decDigits u).length ∧ (decDigits u).length ≤ 13 := by
  rw [decDigits_length]
  refine ⟨nDigits_pos u, ?_⟩
  have key : ∀ (k u : Nat), u < 10 ^ (k + 1) → nDigits u ≤ k + 1 := by
    intro k
    induction k with
    | zero => intro u hu; rw [nDigits_small (by simpa using hu)]; omega
    | succ k ih =>
      intro u hu
      by_cases h10 : u < 10
      · rw [nDigits_small h10]; omega
      · rw [nDigits_big h10]
        have := ih (u / 10) (by rw [Nat.pow_succ] at hu; omega)
        omega
  exact key 12 u (by omega)

theorem dval_lt (l : List UInt8) (h : ∀ c ∈ l, 48 ≤ c.toNat ∧ c.toNat ≤ 57) : dval l < 10 ^ l.length := by
  have key : ∀ (l : List UInt8) (acc k : Nat), (∀ c ∈ l, 48 ≤ c.toNat ∧ c.toNat ≤ 57) → acc < 10 ^ k → l.foldl dstep acc < 10 ^ (k + l.length) := by
    intro l
    induction l with
    | nil => intro acc k _ h; simpa using h
    | cons c r ih =>
      intro acc k hd h
      have hc := hd c (by simp)
      have := ih (dstep acc c) (k + 1) (fun x hx => hd x (by simp [hx])) (by unfold dstep; rw [Nat.pow_succ]; omega)
      simp only [List.foldl_cons, List.length_cons]
      rw [show k + (r.length + 1) = k + 1 + r.length by omega]
      exact this
  have := key l 0 0 h (by simp)
  rw [Nat.zero_add] at this
  exact this
theorem dval_small (l : List UInt8) (h : ∀ c ∈ l, 48 ≤ c.toNat ∧ c.toNat ≤ 57) (hl : l.length ≤ 13) : dval l < 10000000000000 := by
  have h1 := dval_lt l h
  have h2 : 10 ^ l.length ≤ 10 ^ 13 := Nat.pow_le_pow_right (by omega) hl
  have h3 : (10 : Nat) ^ 13 = 10000000000000 := by decide
  omega
/-- Whether a text is the numeral of a number from 0 to 1000000000000; that number (0 where it is none). -/
def pok (l : List UInt8) : Bool := decide (dval l ≤ 1000000000000 ∧ decDigits (dval l) = l)
def pval (l : List UInt8) : Nat := if pok l then dval l else 0
theorem pok_iff {l : List UInt8} : pok l = true ↔ dval l ≤ 1000000000000 ∧ decDigits (dval l) = l := by unfold pok; exact decide_eq_true_iff
theorem pok_dec {u : Nat} (h : u ≤ 1000000000000) : pok (decDigits u) = true := pok_iff.2 ⟨by rw [dval_dec]; exact h, by rw [dval_dec]⟩
theorem pok_of {l : List UInt8} {u : Nat} (h : u ≤ 1000000000000) (e : decDigits u = l) : pok l = true ∧ dval l = u := by
  subst e
  exact ⟨pok_dec h, dval_dec u⟩
theorem pval_yes {l : List UInt8} (h : pok l = true) : pval l = dval l := if_pos h
theorem pval_no {l : List UInt8} (h : pok l = false) : pval l = 0 := by unfold pval; rw [h]; rfl
theorem pval_le (l : List UInt8) : pval l ≤ 1000000000000 := by
  unfold pval
  split
  · rename_i h; exact (pok_iff.1 h).1
  · omega
theorem pok_len {l : List UInt8} (h : pok l = true) : 1 ≤ l.length ∧ l.length ≤ 13 := by
  obtain ⟨h1, h2⟩ := pok_iff.1 h
  have := dec_len (dval l) h1
  rw [h2] at this
  exact this
theorem pok_digit {l : List UInt8} (h : pok l = true) : ∀ c ∈ l, 48 ≤ c.toNat ∧ c.toNat ≤ 57 := by
  obtain ⟨h1, h2⟩ := pok_iff.1 h
  intro c hc
  rw [← h2] at hc
  exact dec_digit _ c hc

theorem foldl_ge (l : List UInt8) : ∀ acc : Nat, acc ≤ l.foldl dstep acc := by
  induction l with
  | nil => intro acc; exact Nat.le_refl _
  | cons c r ih =>
    intro acc
    have := ih (dstep acc c)
    have h2 : acc ≤ dstep acc c := by unfold dstep; omega
    exact Nat.le_trans h2 this
theorem parse_digits : ∀ (l : List UInt8) (acc : Nat), (∀ c ∈ l, 48 ≤ c.toNat ∧ c.toNat ≤ 57) → l.foldl dstep acc ≤ 1000000000000 → parseUint10 acc l = .ok (l.foldl dstep acc)
  | [], acc, _, _ => rfl
  | c :: r, acc, hd, hb => by
    have hc := hd c (by simp)
    have hle := foldl_ge r (dstep acc c)
    have hb' : r.foldl dstep (dstep acc c) ≤ 1000000000000 := hb
    have h2 : dstep acc c = acc * 10 + (c.toNat - 48) := by unfold dstep; omega
    have hb2 : acc * 10 + (c.toNat - 48) ≤ 1000000000000 := by omega
    unfold parseUint10
    rw [if_pos hc, if_neg (by omega), if_neg (by omega), ← h2]
    exact parse_digits r _ (fun x hx => hd x (by simp [hx])) hb'
theorem atoi_of_pok {l : List UInt8} (h : pok l = true) : atoiAll l = .ok (dval l : Int) := by
  have hd := pok_digit h
  have hl := pok_len h
  obtain ⟨h1, -⟩ := pok_iff.1 h
  cases l with
  | nil => simp at hl
  | cons c r =>
    have hc := hd c (by simp)
    have hp : parseMag (c :: r) = .ok (dval (c :: r)) := by
      unfold parseMag
      rw [if_neg (by simp)]
      exact parse_digits (c :: r) 0 hd h1
    have e2 : ¬ c.toNat = 45 := by omega
    have e3 : ¬ 9223372036854775808 ≤ dval (c :: r) := by omega
    unfold atoiAll
    have e4 : ¬ c.toNat = 43 := by omega
    simp only [e4, e2, or_false, false_and, if_false, hp, not_false_eq_true, e3, and_false]
theorem no_atoi {l : List UInt8} (h : ∀ v, atoiAll l ≠ .ok v) : pok l = false := by
  cases e : pok l with
  | false => rfl
  | true => exact absurd (atoi_of_pok e) (h _)
end Go.Proofs.YtgibhbplgiejpaaGreat
namespace Go.Proofs.YtgibhbplgiejpaaGreat
open Go.RowKit Go.Lib
set_option linter.unusedSimpArgs false
/-! ### Words -/
/-- Words, parted by a byte. -/
def joinW (sep : UInt8) : List (List UInt8) → List UInt8
  | [] => []
  | [w] => w
  | w :: v :: ws => w ++ sep :: joinW sep (v :: ws)
/-- The parts between a byte: one at least. -/
def splitB (sep : UInt8) : List UInt8 → List (List UInt8)
  | [] => [[]]
  | c :: s => if c = sep then [] :: splitB sep s else match splitB sep s with
    | [] => [[c]]
    | w :: ws => (c :: w) :: ws
theorem split_ne (sep : UInt8) (s : List UInt8) : splitB sep s ≠ [] := by
  cases s with
  | nil => simp [splitB]
  | cons c s =>
    rw [splitB]
    split
    · simp
    · split <;> simp
theorem split_sep (sep : UInt8) (s : List UInt8) : splitB sep (sep :: s) = [] :: splitB sep s := by rw [splitB, if_pos rfl]
theorem split_byte {sep c : UInt8} {s w : List UInt8} {ws : List (List UInt8)} (hc : c ≠ sep) (h : splitB sep s = w :: ws) : splitB sep (c :: s) = (c :: w) :: ws := by rw [splitB, if_neg hc, h]
theorem split_cons {sep : UInt8} : ∀ {w s : List UInt8}, sep ∉ w → splitB sep (w ++ sep :: s) = w :: splitB sep s
  | [], s, _ => split_sep sep s
  | c :: w, s, h => split_byte (fun e => h (by simp [e])) (split_cons (w := w) (fun e => h (List.mem_cons_of_mem _ e)))
theorem split_last {sep : UInt8} : ∀ {w : List UInt8}, sep ∉ w → splitB sep w = [w]
  | [], _ => rfl
  | c :: w, h => split_byte (fun e => h (by simp [e])) (split_last (w := w) (fun e => h (List.mem_cons_of_mem _ e)))
theorem split_join {sep : UInt8} : ∀ {ws : List (List UInt8)}, ws ≠ [] → (∀ w ∈ ws, sep ∉ w) → splitB sep (joinW sep ws) = ws
  | [], h, _ => absurd rfl h
  | [w], _, h => split_last (h w (by simp))
  | w :: v :: ws, _, h => by rw [joinW, split_cons (h w (by simp)), split_join (by simp) (fun x hx => h x (List.mem_cons_of_mem _ hx))]
theorem join_split (sep : UInt8) : ∀ s : List UInt8, joinW sep (splitB sep s) = s
  | [] => rfl
  | c :: s => by
    have ih := join_split sep s
    have hne := split_ne sep s
    by_cases hc : c = sep
    · subst hc
      rw [split_sep]
      cases hs : splitB c s with
      | nil => exact absurd hs hne
      | cons w ws => rw [joinW, ← hs, ih]; rfl
    · cases hs : splitB sep s with
      | nil => exact absurd hs hne
      | cons w ws =>
        rw [split_byte hc hs]
        rw [hs] at ih
        cases ws with
        | nil => rw [joinW] at ih ⊢; rw [ih]
        | cons v ws => rw [joinW] at ih ⊢; rw [List.cons_append, ih]
/-! ### An instruction's words -/
def nameW (s : ByteArray) : List UInt8 := s.data.toList
def regW (c : Int) : List (List UInt8) := if c = -1 then [] else [itoa c]
def wordsI (x : I) : List (List UInt8) :=
  if x.op = 4 ∨ x.op = 10 then [nameW (opName x.op), itoa x.a]
  else if x.op = 5 then [nameW (opName x.op), itoa x.a, itoa x.b, itoa x.c]
  else if x.op = 6 then [nameW (opName x.op), itoa x.a, itoa x.b, nameW x.name] ++ (regW x.c ++ regW x.d)
  else if x.op = 7 then [nameW (opName x.op), itoa x.a, nameW x.name] ++ (regW x.c ++ regW x.d)
  else [nameW (opName x.op), itoa x.a, itoa x.b]
/-- The text of an instruction; empty if it is not valid. -/
def fmtI (x : I) : List UInt8 := if isI x then joinW 32 (wordsI x) else []
/-! ### What an instruction's words say -/
def numW (l : List (List UInt8)) (i : Nat) : Int := match l[i]? with
  | none => -1
  | some w => if pok w then (dval w : Int) else -1
def opW (w : List UInt8) : Int :=
  if w = nameW (opName 1) then 1 else if w = nameW (opName 2) then 2 else if w = nameW (opName 3) then 3 else if w = nameW (opName 4) then 4 else if w = nameW (opName 5) then 5
  else if w = nameW (opName 6) then 6 else if w = nameW (opName 7) then 7 else if w = nameW (opName 8) then 8 else if w = nameW (opName 9) then 9 else if w = nameW (opName 10) then 10 else 0
def strW (l : List (List UInt8)) (i : Nat) : ByteArray := match l[i]? with
  | none => ⟨#[]⟩
  | some w => ⟨w.toArray⟩
def candI (l : List (List UInt8)) : I :=
  let op := opW (l.headD [])
  if op = 4 ∨ op = 10 then ⟨op, numW l 1, 0, 0, 0, ⟨#[]⟩⟩
  else if op = 5 then ⟨op, numW l 1, numW l 2, numW l 3, 0, ⟨#[]⟩⟩
  else if op = 6 then ⟨op, numW l 1, numW l 2, numW l 4, numW l 5, strW l 3⟩
  else if op = 7 then ⟨op, numW l 1, 0, numW l 3, numW l 4, strW l 2⟩
  else ⟨op, numW l 1, numW l 2, 0, 0, ⟨#[]⟩⟩
/-- The instruction with this text. -/
def parseI (s : List UInt8) : Option I :=
  let x := candI (splitB 32 s)
  if isI x = true ∧ fmtI x = s then some x else none
theorem pok_itoa {n : Int} (h0 : 0 ≤ n) (h1 : n ≤ 1000000000000) : pok (itoa n) = true ∧ (dval (itoa n) : Int) = n := by
  obtain ⟨u, rfl⟩ : ∃ u : Nat, n = u := ⟨n.toNat, by omega⟩
  rw [itoa_inj_nat]
  exact ⟨pok_dec (by omega), by rw [dval_dec]⟩
theorem num_at {l : List (List UInt8)} {i : Nat} {n : Int} (h : l[i]? = some (itoa n)) (h0 : 0 ≤ n) (h1 : n ≤ 1000000000000) : numW l i = n := by
  rw [numW, h]
  have := pok_itoa h0 h1
  simp only [this.1, this.2, if_pos]
theorem num_off {l : List (List UInt8)} {i : Nat} (h : l[i]? = none) : numW l i = -1 := by rw [numW, h]
theorem str_at {l : List (List UInt8)} {i : Nat} {s : ByteArray} (h : l[i]? = some (nameW s)) : strW l i = s := by
  rw [strW, h]
  rfl
theorem itoa_sep {n : Int} (h0 : 0 ≤ n) : ∀ c ∈ itoa n, 48 ≤ c.toNat ∧ c.toNat ≤ 57 := by
  obtain ⟨u, rfl⟩ : ∃ u : Nat, n = u := ⟨n.toNat, by omega⟩
  rw [itoa_inj_nat]
  exact dec_digit u
/-- No blank and no newline. -/
def Calm (w : List UInt8) : Prop := ∀ c ∈ w, 48 ≤ c.toNat
theorem Calm.sp {w : List UInt8} (h : Calm w) : (32 : UInt8) ∉ w := fun hm => absurd (h _ hm) (by decide)
theorem Calm.nl {w : List UInt8} (h : Calm w) : (10 : UInt8) ∉ w := fun hm => absurd (h _ hm) (by decide)
theorem calm_itoa {n : Int} (h0 : 0 ≤ n) : Calm (itoa n) := fun c hc => (itoa_sep h0 c hc).1
theorem calm_name {s : ByteArray} (h : isName s = true) : Calm (nameW s) := by
  simp only [isName, Bool.and_eq_true, List.all_eq_true] at h
  intro c hc
  have := of_decide_eq_true (h.2 c hc)
  omega
theorem calm_op (op : Int) : Calm (nameW (opName op)) := by
  rcases opCases op with rfl | rfl | rfl | rfl | rfl | rfl | rfl | rfl | rfl | rfl | h0
  all_goals first
    | (intro c hc; revert c; decide)
    | (have : opName op = ⟨#[]⟩ := by
        unfold opName
        repeat (rw [if_neg (by omega)])
       rw [this]; intro c hc; cases hc)
theorem op_op {op : Int} (h : 1 ≤ op ∧ op ≤ 10) : opW (nameW (opName op)) = op := by
  rcases opCases op with rfl | rfl | rfl | rfl | rfl | rfl | rfl | rfl | rfl | rfl | h0
  all_goals first | exact absurd h h0 | decide
theorem isReg_ge {n : Int} (h : isReg n = true) : 0 ≤ n ∧ n ≤ 7 := by simpa [isReg, inR] using h
theorem inR_ge {n a b : Int} (h : inR n a b = true) : a ≤ n ∧ n ≤ b := by simpa [inR] using h
theorem two_ge {c d : Int} (h : two c d = true) : (c = -1 ∧ d = -1) ∨ ((0 ≤ c ∧ c ≤ 7) ∧ (d = -1 ∨ (0 ≤ d ∧ d ≤ 7))) := by
  simp only [two, Bool.or_eq_true, Bool.and_eq_true, decide_eq_true_eq] at h
  rcases h with h | ⟨h1, h2 | h2⟩
  · exact Or.inl h
  · exact Or.inr ⟨isReg_ge h1, Or.inl h2⟩
  · exact Or.inr ⟨isReg_ge h1, Or.inr (isReg_ge h2)⟩
theorem no_str {s : ByteArray} (h : s.toList = []) : s = ⟨#[]⟩ := by
  obtain ⟨⟨l⟩⟩ := s
  rw [ByteArray.toList_eq] at h
  have : l = [] := h
  rw [this]
theorem regW_no : regW (-1) = [] := rfl
theorem regW_yes {c : Int} (h : 0 ≤ c) : regW c = [itoa c] := by rw [regW, if_neg (by omega)]
theorem isI_op {x : I} (h : isI x = true) : 1 ≤ x.op ∧ x.op ≤ 10 := by
  rcases opCases x.op with h1 | h1 | h1 | h1 | h1 | h1 | h1 | h1 | h1 | h1 | h0
  all_goals first
    | omega
    | (exfalso
       unfold isI at h
       repeat (rw [if_neg (by omega)] at h)
       cases h)
/-- A valid instruction's words: calm, some, and they say the instruction. -/
theorem words_ok {x : I} (h : isI x = true) : (∀ w ∈ wordsI x, Calm w) ∧ wordsI x ≠ [] ∧ candI (wordsI x) = x := by
  obtain ⟨op, a, b, c, d, nm⟩ := x
  have hop := isI_op h
  simp only at hop
  have h0 := op_op hop
  have hc := calm_op op
  have three : regNum a b c d 0 999999 nm = true ∨ regNum a b c d 0 1 nm = true ∨ regNum a b c d 0 2 nm = true ∨ regNum a b c d 1 12 nm = true → 0 ≤ a ∧ a ≤ 7 ∧ 0 ≤ b ∧ b ≤ 999999 ∧ c = 0 ∧ d = 0 ∧ nm = ⟨#[]⟩ := by
    intro h
    simp only [regNum, plain, Bool.and_eq_true, decide_eq_true_eq] at h
    rcases h with ⟨⟨⟨h1, h2, h3⟩, h4⟩, h5⟩ | ⟨⟨⟨h1, h2, h3⟩, h4⟩, h5⟩ | ⟨⟨⟨h1, h2, h3⟩, h4⟩, h5⟩ | ⟨⟨⟨h1, h2, h3⟩, h4⟩, h5⟩
    all_goals (
      have h6 := isReg_ge h4
      have h7 := inR_ge h5
      exact ⟨h6.1, h6.2, by omega, by omega, h1, h2, no_str h3⟩)
  have one : oneReg a b c d nm = true → 0 ≤ a ∧ a ≤ 7 ∧ b = 0 ∧ c = 0 ∧ d = 0 ∧ nm = ⟨#[]⟩ := by
    intro h
    simp only [oneReg, plain, Bool.and_eq_true, decide_eq_true_eq] at h
    obtain ⟨⟨⟨h1, h2, h3⟩, h4⟩, h5⟩ := h
    have h6 := isReg_ge h4
    exact ⟨h6.1, h6.2, h5, h1, h2, no_str h3⟩
  have threeW : ∀ op : Int, 1 ≤ op ∧ op ≤ 10 → ¬ (op = 4 ∨ op = 10) → ¬ op = 5 → ¬ op = 6 → ¬ op = 7 → ∀ a b : Int, 0 ≤ a ∧ a ≤ 7 ∧ 0 ≤ b ∧ b ≤ 999999 →
      (∀ w ∈ wordsI ⟨op, a, b, 0, 0, ⟨#[]⟩⟩, Calm w) ∧ wordsI ⟨op, a, b, 0, 0, ⟨#[]⟩⟩ ≠ [] ∧ candI (wordsI ⟨op, a, b, 0, 0, ⟨#[]⟩⟩) = ⟨op, a, b, 0, 0, ⟨#[]⟩⟩ := by
    intro op hop n1 n2 n3 n4 a b ⟨h1, h2, h3, h4⟩
    have e : wordsI ⟨op, a, b, 0, 0, ⟨#[]⟩⟩ = [nameW (opName op), itoa a, itoa b] := by
      unfold wordsI
      simp only [n1, n2, n3, n4, if_false]
    rw [e]
    refine ⟨fun w hw => ?_, by simp, ?_⟩
    · simp only [List.mem_cons, List.not_mem_nil, or_false] at hw
      rcases hw with rfl | rfl | rfl
      · exact calm_op op
      · exact calm_itoa h1
      · exact calm_itoa h3
    · unfold candI
      simp only [List.headD_cons, op_op hop, n1, n2, n3, n4, if_false]
      rw [num_at (n := a) rfl h1 (by omega), num_at (n := b) rfl h3 (by omega)]
  have oneW : ∀ op : Int, op = 4 ∨ op = 10 → ∀ a : Int, 0 ≤ a ∧ a ≤ 7 →
      (∀ w ∈ wordsI ⟨op, a, 0, 0, 0, ⟨#[]⟩⟩, Calm w) ∧ wordsI ⟨op, a, 0, 0, 0, ⟨#[]⟩⟩ ≠ [] ∧ candI (wordsI ⟨op, a, 0, 0, 0, ⟨#[]⟩⟩) = ⟨op, a, 0, 0, 0, ⟨#[]⟩⟩ := by
    intro op n1 a ⟨h1, h2⟩
    have e : wordsI ⟨op, a, 0, 0, 0, ⟨#[]⟩⟩ = [nameW (opName op), itoa a] := by
      unfold wordsI
      simp only [n1, if_true]
    rw [e]
    refine ⟨fun w hw => ?_, by simp, ?_⟩
    · simp only [List.mem_cons, List.not_mem_nil, or_false] at hw
      rcases hw with rfl | rfl
      · exact calm_op op
      · exact calm_itoa h1
    · unfold candI
      simp only [List.headD_cons, op_op (show 1 ≤ op ∧ op ≤ 10 by omega), n1, if_true]
      rw [num_at (n := a) rfl h1 (by omega)]
  rcases opCases op with rfl | rfl | rfl | rfl | rfl | rfl | rfl | rfl | rfl | rfl | hn
  · obtain ⟨h1, h2, h3, h4, rfl, rfl, rfl⟩ := three (Or.inl h)
    exact threeW 1 (by omega) (by omega) (by omega) (by omega) (by omega) a b ⟨h1, h2, h3, h4⟩
  · obtain ⟨h1, h2, h3, h4, rfl, rfl, rfl⟩ := three (Or.inr (Or.inl h))
    exact threeW 2 (by omega) (by omega) (by omega) (by omega) (by omega) a b ⟨h1, h2, h3, h4⟩
  · obtain ⟨h1, h2, h3, h4, rfl, rfl, rfl⟩ := three (Or.inr (Or.inr (Or.inl h)))
    exact threeW 3 (by omega) (by omega) (by omega) (by omega) (by omega) a b ⟨h1, h2, h3, h4⟩
  · obtain ⟨h1, h2, rfl, rfl, rfl, rfl⟩ := one h
    exact oneW 4 (by omega) a ⟨h1, h2⟩
  · have h' : addI a b c d nm = true := h
    simp only [addI, Bool.and_eq_true, decide_eq_true_eq] at h'
    obtain ⟨⟨⟨⟨h1, h2⟩, h3⟩, rfl⟩, h5⟩ := h'
    obtain rfl := no_str h5
    have g1 := isReg_ge h1
    have g2 := isReg_ge h2
    have g3 := isReg_ge h3
    show (∀ w ∈ [nameW (opName 5), itoa a, itoa b, itoa c], Calm w) ∧ _ ∧ candI [nameW (opName 5), itoa a, itoa b, itoa c] = _
    refine ⟨fun w hw => ?_, by simp [wordsI], ?_⟩
    · simp only [List.mem_cons, List.not_mem_nil, or_false] at hw
      rcases hw with rfl | rfl | rfl | rfl
      · exact hc
      · exact calm_itoa g1.1
      · exact calm_itoa g2.1
      · exact calm_itoa g3.1
    · unfold candI
      simp only [List.headD_cons, h0]
      rw [num_at (n := a) rfl g1.1 (by omega), num_at (n := b) rfl g2.1 (by omega), num_at (n := c) rfl g3.1 (by omega)]
      rfl
  · have h' : sendI a b c d nm = true := h
    simp only [sendI, Bool.and_eq_true] at h'
    obtain ⟨⟨⟨h1, h2⟩, h3⟩, h4⟩ := h'
    have g1 := isReg_ge h1
    have g2 := isReg_ge h2
    have gn := calm_name h4
    show (∀ w ∈ [nameW (opName 6), itoa a, itoa b, nameW nm] ++ (regW c ++ regW d), Calm w) ∧ _ ∧ candI ([nameW (opName 6), itoa a, itoa b, nameW nm] ++ (regW c ++ regW d)) = _
    refine ⟨fun w hw => ?_, by simp [wordsI], ?_⟩
    · rcases two_ge h3 with ⟨rfl, rfl⟩ | ⟨gc, rfl | gd⟩
      · simp only [regW_no, List.append_nil, List.mem_cons, List.not_mem_nil, or_false] at hw
        rcases hw with rfl | rfl | rfl | rfl
        · exact hc
        · exact calm_itoa g1.1
        · exact calm_itoa g2.1
        · exact gn
      · simp only [regW_no, regW_yes gc.1, List.append_nil, List.cons_append, List.nil_append, List.mem_cons, List.not_mem_nil, or_false] at hw
        rcases hw with rfl | rfl | rfl | rfl | rfl
        · exact hc
        · exact calm_itoa g1.1
        · exact calm_itoa g2.1
        · exact gn
        · exact calm_itoa gc.1
      · simp only [regW_yes gc.1, regW_yes gd.1, List.append_nil, List.cons_append, List.nil_append, List.mem_cons, List.not_mem_nil, or_false] at hw
        rcases hw with rfl | rfl | rfl | rfl | rfl | rfl
        · exact hc
        · exact calm_itoa g1.1
        · exact calm_itoa g2.1
        · exact gn
        · exact calm_itoa gc.1
        · exact calm_itoa gd.1
    · rcases two_ge h3 with ⟨rfl, rfl⟩ | ⟨gc, rfl | gd⟩
      · simp only [regW_no, List.append_nil]
        unfold candI
        simp only [List.headD_cons, h0]
        rw [num_at (n := a) rfl g1.1 (by omega), num_at (n := b) rfl g2.1 (by omega), num_off (i := 4) rfl, num_off (i := 5) rfl, str_at (s := nm) rfl]
        rfl
      · simp only [regW_no, regW_yes gc.1, List.append_nil, List.cons_append, List.nil_append]
        unfold candI
        simp only [List.headD_cons, h0]
        rw [num_at (n := a) rfl g1.1 (by omega), num_at (n := b) rfl g2.1 (by omega), num_at (n := c) (i := 4) rfl gc.1 (by omega), num_off (i := 5) rfl, str_at (s := nm) rfl]
        rfl
      · simp only [regW_yes gc.1, regW_yes gd.1, List.append_nil, List.cons_append, List.nil_append]
        unfold candI
        simp only [List.headD_cons, h0]
        rw [num_at (n := a) rfl g1.1 (by omega), num_at (n := b) rfl g2.1 (by omega), num_at (n := c) (i := 4) rfl gc.1 (by omega), num_at (n := d) (i := 5) rfl gd.1 (by omega), str_at (s := nm) rfl]
        rfl
  · have h' : newI a b c d nm = true := h
    simp only [newI, Bool.and_eq_true, decide_eq_true_eq] at h'
    obtain ⟨⟨⟨h1, rfl⟩, h3⟩, h4⟩ := h'
    have g1 := isReg_ge h1
    have gn := calm_name h4
    show (∀ w ∈ [nameW (opName 7), itoa a, nameW nm] ++ (regW c ++ regW d), Calm w) ∧ _ ∧ candI ([nameW (opName 7), itoa a, nameW nm] ++ (regW c ++ regW d)) = _
    refine ⟨fun w hw => ?_, by simp [wordsI], ?_⟩
    · rcases two_ge h3 with ⟨rfl, rfl⟩ | ⟨gc, rfl | gd⟩
      · simp only [regW_no, List.append_nil, List.mem_cons, List.not_mem_nil, or_false] at hw
        rcases hw with rfl | rfl | rfl
        · exact hc
        · exact calm_itoa g1.1
        · exact gn
      · simp only [regW_no, regW_yes gc.1, List.append_nil, List.cons_append, List.nil_append, List.mem_cons, List.not_mem_nil, or_false] at hw
        rcases hw with rfl | rfl | rfl | rfl
        · exact hc
        · exact calm_itoa g1.1
        · exact gn
        · exact calm_itoa gc.1
      · simp only [regW_yes gc.1, regW_yes gd.1, List.append_nil, List.cons_append, List.nil_append, List.mem_cons, List.not_mem_nil, or_false] at hw
        rcases hw with rfl | rfl | rfl | rfl | rfl
        · exact hc
        · exact calm_itoa g1.1
        · exact gn
        · exact calm_itoa gc.1
        · exact calm_itoa gd.1
    · rcases two_ge h3 with ⟨rfl, rfl⟩ | ⟨gc, rfl | gd⟩
      · simp only [regW_no, List.append_nil]
        unfold candI
        simp only [List.headD_cons, h0]
        rw [num_at (n := a) rfl g1.1 (by omega), num_off (i := 3) rfl, num_off (i := 4) rfl, str_at (s := nm) (i := 2) rfl]
        rfl
      · simp only [regW_no, regW_yes gc.1, List.append_nil, List.cons_append, List.nil_append]
        unfold candI
        simp only [List.headD_cons, h0]
        rw [num_at (n := a) rfl g1.1 (by omega), num_at (n := c) (i := 3) rfl gc.1 (by omega), num_off (i := 4) rfl, str_at (s := nm) (i := 2) rfl]
        rfl
      · simp only [regW_yes gc.1, regW_yes gd.1, List.append_nil, List.cons_append, List.nil_append]
        unfold candI
        simp only [List.headD_cons, h0]
        rw [num_at (n := a) rfl g1.1 (by omega), num_at (n := c) (i := 3) rfl gc.1 (by omega), num_at (n := d) (i := 4) rfl gd.1 (by omega), str_at (s := nm) (i := 2) rfl]
        rfl
  · have h' : setI a b c d nm = true := h
    simp only [setI, plain, Bool.and_eq_true, decide_eq_true_eq] at h'
    obtain ⟨⟨⟨rfl, rfl, h3⟩, h4⟩, h5⟩ := h'
    obtain rfl := no_str h3
    have g1 := inR_ge h4
    have g2 := isReg_ge h5
    exact threeW 8 (by omega) (by omega) (by omega) (by omega) (by omega) a b ⟨by omega, by omega, by omega, by omega⟩
  · obtain ⟨h1, h2, h3, h4, rfl, rfl, rfl⟩ := three (Or.inr (Or.inr (Or.inr h)))
    exact threeW 9 (by omega) (by omega) (by omega) (by omega) (by omega) a b ⟨h1, h2, h3, h4⟩
  · obtain ⟨h1, h2, rfl, rfl, rfl, rfl⟩ := one h
    exact oneW 10 (by omega) a ⟨h1, h2⟩
  · exact absurd hop hn
/-- The words of a valid instruction's text say it. -/
theorem cand_fmt {x : I} (h : isI x = true) : candI (splitB 32 (fmtI x)) = x := by
  have hw := words_ok h
  rw [fmtI, if_pos h, split_join hw.2.1 (fun w hm => (hw.1 w hm).sp)]
  exact hw.2.2
theorem fmtI_inj {x y : I} (hx : isI x = true) (hy : isI y = true) (h : fmtI x = fmtI y) : x = y := by rw [← cand_fmt hx, h, cand_fmt hy]
theorem parse_iff {s : List UInt8} {x : I} : parseI s = some x ↔ isI x = true ∧ fmtI x = s := by
  constructor
  · intro h
    unfold parseI at h
    simp only at h
    split at h
    · rename_i h1
      cases h
      exact h1
    · cases h
  · rintro ⟨h, rfl⟩
    unfold parseI
    rw [cand_fmt h]
    exact if_pos ⟨h, rfl⟩
end Go.Proofs.YtgibhbplgiejpaaGreat
namespace Go.Proofs.YtgibhbplgiejpaaGreat
open Go.RowKit Go.Lib
set_option linter.unusedSimpArgs false
set_option linter.unusedVariables false
def strB (l : List UInt8) : ByteArray := ⟨l.toArray⟩
theorem bytes_eq {a b : ByteArray} (h : a.data.toList = b.data.toList) : a = b := by
  apply ByteArray.ext
  exact Array.toList_inj.1 h
theorem strB_list (s : ByteArray) : strB s.data.toList = s := bytes_eq rfl
/-! ### The words of an instruction by letters -/
/-- A letter for each word behind the operation's name: 65 to 68 for A to D, 78 for the name. -/
def layW (op : Int) : List UInt8 :=
  if op = 1 ∨ op = 2 ∨ op = 3 ∨ op = 8 ∨ op = 9 then [65, 66]
  else if op = 4 ∨ op = 10 then [65]
  else if op = 5 then [65, 66, 67]
  else if op = 6 then [65, 66, 78, 67, 68]
  else if op = 7 then [65, 78, 67, 68]
  else []
def numAt (x : I) (c : UInt8) : Int := if c = 65 then x.a else if c = 66 then x.b else if c = 67 then x.c else x.d
def pieceI (x : I) (c : UInt8) : List UInt8 := if c = 78 then 32 :: nameW x.name else if numAt x c = -1 then [] else 32 :: itoa (numAt x c)
/-- The text behind k letters. -/
def textK (x : I) (k : Nat) : List UInt8 := nameW (opName x.op) ++ ((layW x.op).take k).flatMap (pieceI x)
theorem textK_zero (x : I) : textK x 0 = nameW (opName x.op) := by simp [textK]
theorem textK_next {x : I} {k : Nat} {c : UInt8} (h : (layW x.op)[k]? = some c) : textK x (k + 1) = textK x k ++ pieceI x c := by
  rw [textK, List.take_add_one, h, List.flatMap_append, ← List.append_assoc]
  simp [textK]
theorem textK_all {x : I} {k : Nat} (h : (layW x.op).length ≤ k) : textK x k = textK x (layW x.op).length := by
  rw [textK, textK, List.take_of_length_le h, List.take_of_length_le (Nat.le_refl _)]
theorem isI_parts {x : I} (h : isI x = true) : ((0 ≤ x.a ∧ x.a ≤ 999999) ∧ (x.op = 6 ∨ x.op = 7 ∨ (0 ≤ x.c ∧ x.c ≤ 999999))) ∧ (0 ≤ x.b ∧ x.b ≤ 999999) ∧ (-1 ≤ x.c ∧ x.c ≤ 999999) ∧ (-1 ≤ x.d ∧ x.d ≤ 999999) := by
  obtain ⟨op, a, b, c, d, nm⟩ := x
  have hop := isI_op h
  simp only at hop ⊢
  have three : regNum a b c d 0 999999 nm = true ∨ regNum a b c d 0 1 nm = true ∨ regNum a b c d 0 2 nm = true ∨ regNum a b c d 1 12 nm = true → 0 ≤ a ∧ a ≤ 7 ∧ 0 ≤ b ∧ b ≤ 999999 ∧ c = 0 ∧ d = 0 := by
    intro h
    simp only [regNum, plain, Bool.and_eq_true, decide_eq_true_eq] at h
    rcases h with ⟨⟨⟨h1, h2, h3⟩, h4⟩, h5⟩ | ⟨⟨⟨h1, h2, h3⟩, h4⟩, h5⟩ | ⟨⟨⟨h1, h2, h3⟩, h4⟩, h5⟩ | ⟨⟨⟨h1, h2, h3⟩, h4⟩, h5⟩
    all_goals (
      have h6 := isReg_ge h4
      have h7 := inR_ge h5
      exact ⟨h6.1, h6.2, by omega, by omega, h1, h2⟩)
  have one : oneReg a b c d nm = true → 0 ≤ a ∧ a ≤ 7 ∧ b = 0 ∧ c = 0 ∧ d = 0 := by
    intro h
    simp only [oneReg, plain, Bool.and_eq_true, decide_eq_true_eq] at h
    obtain ⟨⟨⟨h1, h2, h3⟩, h4⟩, h5⟩ := h
    have h6 := isReg_ge h4
    exact ⟨h6.1, h6.2, h5, h1, h2⟩
  rcases opCases op with rfl | rfl | rfl | rfl | rfl | rfl | rfl | rfl | rfl | rfl | hn
  · have := three (Or.inl h); omega
  · have := three (Or.inr (Or.inl h)); omega
  · have := three (Or.inr (Or.inr (Or.inl h))); omega
  · have := one h; omega
  · have h' : addI a b c d nm = true := h
    simp only [addI, Bool.and_eq_true, decide_eq_true_eq] at h'
    obtain ⟨⟨⟨⟨h1, h2⟩, h3⟩, rfl⟩, h5⟩ := h'
    have g1 := isReg_ge h1
    have g2 := isReg_ge h2
    have g3 := isReg_ge h3
    omega
  · have h' : sendI a b c d nm = true := h
    simp only [sendI, Bool.and_eq_true] at h'
    obtain ⟨⟨⟨h1, h2⟩, h3⟩, h4⟩ := h'
    have g1 := isReg_ge h1
    have g2 := isReg_ge h2
    rcases two_ge h3 with ⟨rfl, rfl⟩ | ⟨gc, rfl | gd⟩ <;> omega
  · have h' : newI a b c d nm = true := h
    simp only [newI, Bool.and_eq_true, decide_eq_true_eq] at h'
    obtain ⟨⟨⟨h1, rfl⟩, h3⟩, h4⟩ := h'
    have g1 := isReg_ge h1
    rcases two_ge h3 with ⟨rfl, rfl⟩ | ⟨gc, rfl | gd⟩ <;> omega
  · have h' : setI a b c d nm = true := h
    simp only [setI, plain, Bool.and_eq_true, decide_eq_true_eq] at h'
    obtain ⟨⟨⟨rfl, rfl, h3⟩, h4⟩, h5⟩ := h'
    have g1 := inR_ge h4
    have g2 := isReg_ge h5
    omega
  · have := three (Or.inr (Or.inr (Or.inr h))); omega
  · have := one h; omega
  · exact absurd hop hn
theorem text_fmt {x : I} (h : isI x = true) : textK x (layW x.op).length = fmtI x := by
  have hp := isI_parts h
  have hop := isI_op h
  rw [fmtI, if_pos h, textK, List.take_of_length_le (Nat.le_refl _)]
  obtain ⟨op, a, b, c, d, nm⟩ := x
  simp only at hp hop ⊢
  have na : ¬ a = -1 := by omega
  have nb : ¬ b = -1 := by omega
  rcases opCases op with rfl | rfl | rfl | rfl | rfl | rfl | rfl | rfl | rfl | rfl | hn
  all_goals first
    | exact absurd hop hn
    | (simp [wordsI, layW, pieceI, numAt, na, nb, joinW]; done)
    | (have nc : ¬ c = -1 := by omega
       simp [wordsI, layW, pieceI, numAt, na, nb, nc, joinW]; done)
    | (by_cases nc : c = -1 <;> by_cases nd : d = -1 <;> simp [wordsI, layW, pieceI, numAt, na, nb, nc, nd, regW, joinW]; done)
/-! ### Its words read -/
def putI (x : I) (c : UInt8) (w : ByteArray) : I :=
  let n : Int := if pok w.data.toList then (dval w.data.toList : Int) else -1
  if c = 78 then { x with name := w } else if c = 65 then { x with a := n } else if c = 66 then { x with b := n } else if c = 67 then { x with c := n } else { x with d := n }
def readK (op : Int) (l : List (List UInt8)) : Nat → I
  | 0 => ⟨op, 0, 0, 0, 0, ⟨#[]⟩⟩
  | k + 1 => match (layW op)[k]? with
    | none => readK op l k
    | some c => putI (readK op l k) c (strW l (k + 1))
def candP (l : List (List UInt8)) : I := readK (opW (l.headD [])) l (layW (opW (l.headD []))).length
theorem pok_nil : pok [] = false := by
  cases e : pok [] with
  | false => rfl
  | true => exact absurd (pok_len e).1 (by decide)
theorem num_str (l : List (List UInt8)) (i : Nat) : (if pok (strW l i).data.toList then (dval (strW l i).data.toList : Int) else -1) = numW l i := by
  unfold strW numW
  cases l[i]? with
  | none => simp [pok_nil]
  | some w => rfl
theorem opW_cases (w : List UInt8) : opW w = 0 ∨ (1 ≤ opW w ∧ opW w ≤ 10) := by
  unfold opW
  repeat' split
  all_goals omega
theorem cand_prog {l : List (List UInt8)} (h : opW (l.headD []) ≠ 0) : candP l = candI l := by
  have hop := (opW_cases (l.headD [])).resolve_left h
  unfold candP candI
  generalize opW (l.headD []) = op at *
  rcases opCases op with rfl | rfl | rfl | rfl | rfl | rfl | rfl | rfl | rfl | rfl | hn
  all_goals first
    | exact absurd hop hn
    | simp [layW, readK, putI, num_str]
theorem cand_zero {l : List (List UInt8)} (h : opW (l.headD []) = 0) : isI (candP l) = false := by
  have e : (candP l).op = 0 := by
    unfold candP
    rw [h]
    rfl
  cases hv : isI (candP l) with
  | false => rfl
  | true => have := isI_op hv; omega
theorem candI_op (l : List (List UInt8)) : (candI l).op = opW (l.headD []) := by
  unfold candI
  simp only []
  repeat' split
  all_goals rfl
/-- What the program finds is what there is. -/
theorem prog_some {s : List UInt8} (h : isI (candP (splitB 32 s)) = true) (he : fmtI (candP (splitB 32 s)) = s) : parseI s = some (candP (splitB 32 s)) := parse_iff.2 ⟨h, he⟩
theorem prog_none {s : List UInt8} (h : isI (candP (splitB 32 s)) = true → fmtI (candP (splitB 32 s)) ≠ s) : parseI s = none := by
  cases hp : parseI s with
  | none => rfl
  | some x =>
    exfalso
    obtain ⟨hx, hs⟩ := parse_iff.1 hp
    have h1 := cand_fmt hx
    rw [hs] at h1
    by_cases h0 : opW ((splitB 32 s).headD []) = 0
    · have h2 : x.op = 0 := by
        rw [← h1, candI_op]
        exact h0
      have := isI_op hx
      omega
    · rw [cand_prog h0, h1] at h
      exact h hx hs
theorem cand_none {s : List UInt8} (h : isI (candI (splitB 32 s)) = true → fmtI (candI (splitB 32 s)) ≠ s) : parseI s = none := by
  unfold parseI
  simp only
  exact if_neg (fun ⟨h1, h2⟩ => h h1 h2)
/-! ### Lengths -/
theorem itoa_short {n : Int} (h0 : 0 ≤ n) (h1 : n ≤ 1000000000000) : (itoa n).length ≤ 13 := by
  obtain ⟨u, rfl⟩ : ∃ u : Nat, n = u := ⟨n.toNat, by omega⟩
  rw [itoa_inj_nat]
  exact (dec_len u (by omega)).2
theorem name_short {s : ByteArray} (h : isName s = true) : (nameW s).length ≤ 6 := by
  simp only [isName, Bool.and_eq_true] at h
  have h1 := inR_ge h.1
  have : (nameW s).length = s.size := rfl
  omega
theorem opName_short (op : Int) : (nameW (opName op)).length ≤ 6 := by
  rcases opCases op with rfl | rfl | rfl | rfl | rfl | rfl | rfl | rfl | rfl | rfl | h0
  all_goals first
    | decide
    | (have : opName op = ⟨#[]⟩ := by
        unfold opName
        repeat (rw [if_neg (by omega)])
       rw [this]; decide)
theorem isI_name {x : I} (h : isI x = true) : (nameW x.name).length ≤ 6 := by
  obtain ⟨op, a, b, c, d, nm⟩ := x
  have hop := isI_op h
  simp only at hop ⊢
  have hnil : nm.toList = [] → (nameW nm).length ≤ 6 := fun h => by rw [no_str h]; decide
  rcases opCases op with rfl | rfl | rfl | rfl | rfl | rfl | rfl | rfl | rfl | rfl | hn
  all_goals first
    | exact absurd hop hn
    | (refine hnil ?_
       simp only [isI, regNum, oneReg, setI, addI, plain, Bool.and_eq_true, decide_eq_true_eq] at h
       simp at h
       exact h.1.1.2.2)
    | (refine hnil ?_
       have h' : addI a b c d nm = true := h
       simp only [addI, Bool.and_eq_true, decide_eq_true_eq] at h'
       exact h'.2)
    | (have h' : sendI a b c d nm = true := h
       simp only [sendI, Bool.and_eq_true] at h'
       exact name_short h'.2)
    | (have h' : newI a b c d nm = true := h
       simp only [newI, Bool.and_eq_true] at h'
       exact name_short h'.2)
theorem piece_short {x : I} (h : isI x = true) (c : UInt8) : (pieceI x c).length ≤ 14 := by
  have hp := isI_parts h
  have hn := isI_name h
  unfold pieceI
  split
  · rw [List.length_cons]; omega
  · split
    · simp
    · rename_i h1
      rw [List.length_cons]
      have : (itoa (numAt x c)).length ≤ 13 := by
        have hb : 0 ≤ numAt x c ∧ numAt x c ≤ 999999 := by
          have e : -1 ≤ numAt x c ∧ numAt x c ≤ 999999 := by
            unfold numAt
            repeat' split
            all_goals omega
          omega
        exact itoa_short hb.1 (by omega)
      omega
theorem lay_short (op : Int) : (layW op).length ≤ 5 := by
  unfold layW
  repeat' split
  all_goals decide
theorem flat_short {x : I} (h : isI x = true) : ∀ l : List UInt8, (l.flatMap (pieceI x)).length ≤ 14 * l.length
  | [] => by simp
  | c :: l => by
    have h1 := piece_short h c
    have h2 := flat_short h l
    rw [List.flatMap_cons, List.length_append, List.length_cons]
    omega
theorem textK_short {x : I} (h : isI x = true) (k : Nat) : (textK x k).length ≤ 76 := by
  have h1 := opName_short x.op
  have h2 := flat_short h ((layW x.op).take k)
  have h3 := lay_short x.op
  have h4 : ((layW x.op).take k).length ≤ 5 := by rw [List.length_take]; omega
  rw [textK, List.length_append]
  omega
theorem fmtI_short (x : I) : (fmtI x).length ≤ 76 := by
  cases h : isI x with
  | false => unfold fmtI; rw [if_neg (by rw [h]; decide)]; simp
  | true => rw [← text_fmt h]; exact textK_short h _
end Go.Proofs.YtgibhbplgiejpaaGreat
