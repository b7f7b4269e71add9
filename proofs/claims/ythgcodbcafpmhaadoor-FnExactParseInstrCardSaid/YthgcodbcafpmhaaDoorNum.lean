/- Of no program: decimal numerals: the value of a list of digits, when a list is a numeral of a number up to 1000000000000, and that strconv.Atoi's function gives it. No condition. -/
import Derived.Lib.ItoaLen
import Derived.Lib.AtoiAll
namespace Go.Proofs.YthgcodbcafpmhaaDoor
open Go.Lib

theorem itoa_inj_nat {u : Nat} : itoa (u : Int) = decDigits u := itoa_nonneg u

/-- One digit more. -/
def dstep (a : Nat) (c : UInt8) : Nat := 10 * a + (c.toNat - 48)
/-- The value of a list of digits. -/
def dval (l : List UInt8) : Nat := l.foldl dstep 0
theorem dval_nil : dval [] = 0 := rfl
theorem dval_snoc (l : List UInt8) (c : UInt8) : dval (l ++ [c]) = 10 * dval l + (c.toNat - 48) := by
  unfold dval
  rw [List.foldl_append]
  rfl
theorem dec_big {u : Nat} (h : ¬ u < 10) : decDigits u = decDigits (u / 10) ++ [UInt8.ofNat (48 + u % 10)] := by rw [decDigits, dif_neg h]
theorem byte_nat {u : Nat} (h : u < 10) : (UInt8.ofNat (48 + u)).toNat = 48 + u := by simp; omega
theorem dval_dec (u : Nat) : dval (decDigits u) = u := by
  induction u using Nat.strongRecOn with
  | _ u ih =>
    by_cases h : u < 10
    · rw [decDigits_one h]
      have e := dval_snoc [] (UInt8.ofNat (48 + u))
      rw [List.nil_append, dval_nil, byte_nat h] at e
      omega
    · rw [dec_big h, dval_snoc, ih (u / 10) (by omega), byte_nat (by omega)]
      omega
theorem dec_digit (u : Nat) : ∀ c ∈ decDigits u, 48 ≤ c.toNat ∧ c.toNat ≤ 57 := by
  induction u using Nat.strongRecOn with
  | _ u ih =>
    by_cases h : u < 10
    · rw [decDigits_one h]
      intro c hc
      obtain rfl : c = UInt8.ofNat (48 + u) := by simpa using hc
      rw [byte_nat h]; omega
    · rw [dec_big h]
      intro c hc
      rcases List.mem_append.1 hc with h1 | h1
      · exact ih (u / 10) (by omega) c h1
      · obtain rfl : c = UInt8.ofNat (48 + u % 10) := by simpa using h1
        rw [byte_nat (by omega)]; omega
theorem dec_len (u : Nat) (h : u ≤ 1000000000000) : 1 ≤ (decDigits u).length ∧ (decDigits u).length ≤ 13 := by
  rw [decDigits_length]
  refine ⟨nDigits_pos u, ?_⟩
  have key : ∀ (k u : Nat), u < 10 ^ (k + 1) → nDigits u ≤ k + 1 := by
    intro k
    induction k with
    | zero => intro u hu; rw [nDigits_small (by simpa using hu)]; omega
    | succ k ih =>
      intro u hu
      by_cases h10 : u < 10
      · rw [nDigits_small h10]; omega
      · rw [nDigits_big h10]
        have := ih (u / 10) (by rw [Nat.pow_succ] at hu; omega)
        omega
  exact key 12 u (by omega)

theorem dval_lt (l : List UInt8) (h : ∀ c ∈ l, 48 ≤ c.toNat ∧ c.toNat ≤ 57) : dval l < 10 ^ l.length := by
  have key : ∀ (l : List UInt8) (acc k : Nat), (∀ c ∈ l, 48 ≤ c.toNat ∧ c.toNat ≤ 57) → acc < 10 ^ k → l.foldl dstep acc < 10 ^ (k + l.length) := by
    intro l
    induction l with
    | nil => intro acc k _ h; simpa using h
    | cons c r ih =>
      intro acc k hd h
      have hc := hd c (by simp)
      have := ih (dstep acc c) (k + 1) (fun x hx => hd x (by simp [hx])) (by unfold dstep; rw [Nat.pow_succ]; omega)
      simp only [List.foldl_cons, List.length_cons]
      rw [show k + (r.length + 1) = k + 1 + r.length by omega]
      exact this
  have := key l 0 0 h (by simp)
  rw [Nat.zero_add] at this
  exact this
theorem dval_small (l : List UInt8) (h : ∀ c ∈ l, 48 ≤ c.toNat ∧ c.toNat ≤ 57) (hl : l.length ≤ 13) : dval l < 10000000000000 := by
  have h1 := dval_lt l h
  have h2 : 10 ^ l.length ≤ 10 ^ 13 := Nat.pow_le_pow_right (by omega) hl
  have h3 : (10 : Nat) ^ 13 = 10000000000000 := by decide
  omega
/-- Whether a text is the numeral of a number from 0 to 1000000000000; that number (0 where it is none). -/
def pok (l : List UInt8) : Bool := decide (dval l ≤ 1000000000000 ∧ decDigits (dval l) = l)
def pval (l : List UInt8) : Nat := if pok l then dval l else 0
theorem pok_iff {l : List UInt8} : pok l = true ↔ dval l ≤ 1000000000000 ∧ decDigits (dval l) = l := by unfold pok; exact decide_eq_true_iff
theorem pok_dec {u : Nat} (h : u ≤ 1000000000000) : pok (decDigits u) = true := pok_iff.2 ⟨by rw [dval_dec]; exact h, by rw [dval_dec]⟩
theorem pok_of {l : List UInt8} {u : Nat} (h : u ≤ 1000000000000) (e : decDigits u = l) : pok l = true ∧ dval l = u := by
  subst e
  exact ⟨pok_dec h, dval_dec u⟩
theorem pval_yes {l : List UInt8} (h : pok l = true) : pval l = dval l := if_pos h
theorem pval_no {l : List UInt8} (h : pok l = false) : pval l = 0 := by unfold pval; rw [h]; rfl
theorem pval_le (l : List UInt8) : pval l ≤ 1000000000000 := by
  unfold pval
  split
  · rename_i h; exact (pok_iff.1 h).1
  · omega
theorem pok_len {l : List UInt8} (h : pok l = true) : 1 ≤ l.length ∧ l.length ≤ 13 := by
  obtain ⟨h1, h2⟩ := pok_iff.1 h
  have := dec_len (dval l) h1
  rw [h2] at this
  exact this
theorem pok_digit {l : List UInt8} (h : pok l = true) : ∀ c ∈ l, 48 ≤ c.toNat ∧ c.toNat ≤ 57 := by
  obtain ⟨h1, h2⟩ := pok_iff.1 h
  intro c hc
  rw [← h2] at hc
  exact dec_digit _ c hc

theorem foldl_ge (l : List UInt8) : ∀ acc : Nat, acc ≤ l.foldl dstep acc := by
  induction l with
  | nil => intro acc; exact Nat.le_refl _
  | cons c r ih =>
    intro acc
    have := ih (dstep acc c)
    have h2 : acc ≤ dstep acc c := by unfold dstep; omega
    exact Nat.le_trans h2 this
theorem parse_digits : ∀ (l : List UInt8) (acc : Nat), (∀ c ∈ l, 48 ≤ c.toNat ∧ c.toNat ≤ 57) → l.foldl dstep acc ≤ 1000000000000 → parseUint10 acc l = .ok (l.foldl dstep acc)
  | [], acc, _, _ => rfl
  | c :: r, acc, hd, hb => by
    have hc := hd c (by simp)
    have hle := foldl_ge r (dstep acc c)
    have hb' : r.foldl dstep (dstep acc c) ≤ 1000000000000 := hb
    have h2 : dstep acc c = acc * 10 + (c.toNat - 48) := by unfold dstep; omega
    have hb2 : acc * 10 + (c.toNat - 48) ≤ 1000000000000 := by omega
    unfold parseUint10
    rw [if_pos hc, if_neg (by omega), if_neg (by omega), ← h2]
    exact parse_digits r _ (fun x hx => hd x (by simp [hx])) hb'
theorem atoi_of_pok {l : List UInt8} (h : pok l = true) : atoiAll l = .ok (dval l : Int) := by
  have hd := pok_digit h
  have hl := pok_len h
  obtain ⟨h1, -⟩ := pok_iff.1 h
  cases l with
  | nil => simp at hl
  | cons c r =>
    have hc := hd c (by simp)
    have hp : parseMag (c :: r) = .ok (dval (c :: r)) := by
      unfold parseMag
      rw [if_neg (by simp)]
      exact parse_digits (c :: r) 0 hd h1
    have e2 : ¬ c.toNat = 45 := by omega
    have e3 : ¬ 9223372036854775808 ≤ dval (c :: r) := by omega
    unfold atoiAll
    have e4 : ¬ c.toNat = 43 := by omega
    simp only [e4, e2, or_false, false_and, if_false, hp, not_false_eq_true, e3, and_false]
theorem no_atoi {l : List UInt8} (h : ∀ v, atoiAll l ≠ .ok v) : pok l = false := by
  cases e : pok l with
  | false => rfl
  | true => exact absurd (atoi_of_pok e) (h _)
end Go.Proofs.YthgcodbcafpmhaaDoor
