/- Chapter 8 as plain functions: what writes a register; the first place that reads an unset one, as the program finds it and as the reference does; where both agree. -/
import Derived.Test.YtgibhbplgiejpaaGreatInsA
namespace Go.Proofs.YtgibhbplgiejpaaGreat
open Go.RowKit
set_option linter.unusedVariables false
def setsR (x : I) (r : Int) : Bool := decide (0 ≤ r) && decide (targetOf x = r)
/-- The place behind what is skipped, or the end. -/
def behind (k : Nat) (b : Int) (n : Nat) : Nat := if 0 ≤ b ∧ (k : Int) + b ≤ n then k + b.toNat else n
theorem behind_le {k n : Nat} (b : Int) (h : k ≤ n) : behind k b n ≤ n := by unfold behind; split <;> omega
theorem behind_ge {k n : Nat} (b : Int) (h : k ≤ n) : k ≤ behind k b n := by unfold behind; split <;> omega
/-! ### The first place that .. -/
def firstFrom (p : Nat → Bool) : Nat → Nat → Int
  | _, 0 => -1
  | i, c + 1 => if p i then i else firstFrom p (i + 1) c
def firstP (p : Nat → Bool) (n : Nat) : Int := firstFrom p 0 n
theorem firstFrom_cases (p : Nat → Bool) : ∀ (c i : Nat), (firstFrom p i c = -1 ∧ ∀ j : Nat, i ≤ j → j < i + c → p j = false) ∨ ∃ k : Nat, firstFrom p i c = (k : Int) ∧ i ≤ k ∧ k < i + c ∧ p k = true ∧ ∀ j : Nat, i ≤ j → j < k → p j = false
  | 0, i => Or.inl ⟨rfl, fun j h1 h2 => by omega⟩
  | c + 1, i => by
    rw [firstFrom]
    cases h : p i with
    | true => exact Or.inr ⟨i, by simp, by omega, by omega, h, fun j h1 h2 => by omega⟩
    | false =>
      rw [if_neg (by simp)]
      rcases firstFrom_cases p c (i + 1) with ⟨h1, h2⟩ | ⟨k, h1, h2, h3, h4, h5⟩
      · refine Or.inl ⟨h1, fun j a b => ?_⟩
        by_cases e : j = i
        · rw [e]; exact h
        · exact h2 j (by omega) (by omega)
      · refine Or.inr ⟨k, h1, by omega, by omega, h4, fun j a b => ?_⟩
        by_cases e : j = i
        · rw [e]; exact h
        · exact h5 j (by omega) b
theorem firstP_cases (p : Nat → Bool) (n : Nat) : (firstP p n = -1 ∧ ∀ j : Nat, j < n → p j = false) ∨ ∃ k : Nat, firstP p n = (k : Int) ∧ k < n ∧ p k = true ∧ ∀ j : Nat, j < k → p j = false := by
  rcases firstFrom_cases p n 0 with ⟨h1, h2⟩ | ⟨k, h1, h2, h3, h4, h5⟩
  · exact Or.inl ⟨h1, fun j h => h2 j (Nat.zero_le _) (by omega)⟩
  · exact Or.inr ⟨k, h1, by omega, h4, fun j h => h5 j (Nat.zero_le _) h⟩
theorem firstP_at {p : Nat → Bool} {n i : Nat} (h : ∀ j, j < i → p j = false) (hi : i < n) (hp : p i = true) : firstP p n = (i : Int) := by
  rcases firstP_cases p n with ⟨h1, h2⟩ | ⟨k, h1, h2, h3, h4⟩
  · rw [h2 i hi] at hp; cases hp
  · rcases Nat.lt_trichotomy k i with e | e | e
    · rw [h k e] at h3; cases h3
    · rw [h1, e]
    · rw [h4 i e] at hp; cases hp
theorem firstP_none {p : Nat → Bool} {n : Nat} (h : ∀ j, j < n → p j = false) : firstP p n = -1 := by
  rcases firstP_cases p n with ⟨h1, h2⟩ | ⟨k, h1, h2, h3, h4⟩
  · exact h1
  · rw [h k h2] at h3; cases h3
theorem firstP_congr {p q : Nat → Bool} {n : Nat} (h : ∀ i, i < n → p i = q i) : firstP p n = firstP q n := by
  rcases firstP_cases q n with ⟨h1, h2⟩ | ⟨k, h1, h2, h3, h4⟩
  · rw [h1]; exact firstP_none fun j hj => by rw [h j hj]; exact h2 j hj
  · rw [h1]; exact firstP_at (fun j hj => by rw [h j (by omega)]; exact h4 j hj) h2 (by rw [h k h2]; exact h3)
/-! ### The program's way: register by register -/
def unStep (x : I) (r : Int) (n i : Nat) (U : List Bool) : List Bool :=
  if U.getD i false = false then U
  else if x.op = 10 ∨ setsR x r = true then U
  else if x.op = 9 then (U.set (behind (i + 1) x.b n) true).set (i + 1) true
  else U.set (i + 1) true
/-- Where the register may be unset, after i instructions. -/
def unAt (L : List I) (r : Int) : Nat → List Bool
  | 0 => (List.replicate (L.length + 1) false).set 0 true
  | i + 1 => match L[i]? with
    | some x => unStep x r L.length i (unAt L r i)
    | none => unAt L r i
theorem unStep_len (x : I) (r : Int) (n i : Nat) (U : List Bool) : (unStep x r n i U).length = U.length := by
  unfold unStep
  (repeat' split) <;> simp
theorem unAt_len (L : List I) (r : Int) : ∀ i, (unAt L r i).length = L.length + 1
  | 0 => by simp [unAt]
  | i + 1 => by
    rw [unAt]
    split
    · rw [unStep_len, unAt_len L r i]
    · exact unAt_len L r i
theorem unAt_next {L : List I} {r : Int} {i : Nat} {x : I} (h : L[i]? = some x) : unAt L r (i + 1) = unStep x r L.length i (unAt L r i) := by rw [unAt, h]
theorem getD_set (U : List Bool) (k j : Nat) (v : Bool) : (U.set k v).getD j false = if k = j ∧ j < U.length then v else U.getD j false := by
  rw [List.getD_eq_getElem?_getD, List.getD_eq_getElem?_getD, List.getElem?_set]
  by_cases h : k = j
  · subst h
    by_cases h2 : k < U.length
    · rw [if_pos rfl, if_pos h2, if_pos ⟨rfl, h2⟩]; rfl
    · rw [if_pos rfl, if_neg h2, if_neg (fun e => h2 e.2), List.getElem?_eq_none (by omega)]
  · rw [if_neg h, if_neg (fun e => h e.1)]
/-- Does x read r at place i, while r may be unset there? -/
def badR (L : List I) (r : Int) (i : Nat) : Bool := (unAt L r i).getD i false && (match L[i]? with
  | some x => (regsOf x).contains r
  | none => false)
def firstR (L : List I) (r : Int) : Int := firstP (badR L r) L.length
theorem badR_no {L : List I} {r : Int} {i : Nat} (h : (unAt L r i).getD i false = false) : badR L r i = false := by rw [badR, h]; rfl
theorem badR_no' {L : List I} {r : Int} {i : Nat} {x : I} (hx : L[i]? = some x) (h : (regsOf x).contains r = false) : badR L r i = false := by rw [badR, hx]; simp only [h, Bool.and_false]
theorem badR_yes {L : List I} {r : Int} {i : Nat} {x : I} (hx : L[i]? = some x) (h : (unAt L r i).getD i false = true) (h2 : (regsOf x).contains r = true) : badR L r i = true := by rw [badR, hx]; simp only [h, h2, Bool.and_true]
/-- What is ahead of a place can be searched without the rest. -/
theorem unAt_take (L : List I) (r : Int) (p : Nat) (hp : p ≤ L.length) : ∀ i, i ≤ p → ∀ j, j < p → (unAt (L.take p) r i).getD j false = (unAt L r i).getD j false
  | 0, _, j, hj => by
    simp only [unAt]
    rw [getD_set, getD_set]
    simp only [List.length_replicate, List.length_take]
    by_cases h : 0 = j
    · rw [if_pos ⟨h, by omega⟩, if_pos ⟨h, by omega⟩]
    · rw [if_neg (fun e => h e.1), if_neg (fun e => h e.1)]
      simp only [List.getD_eq_getElem?_getD, List.getElem?_replicate]
      split <;> split <;> rfl
  | i + 1, hi, j, hj => by
    have hL : L[i]? = some (L[i]'(by omega)) := List.getElem?_eq_getElem (by omega)
    have hT : (L.take p)[i]? = some (L[i]'(by omega)) := by rw [List.getElem?_take, if_pos (by omega)]; exact hL
    have hlen : (L.take p).length = p := by rw [List.length_take]; omega
    rw [unAt_next hL, unAt_next hT, hlen]
    generalize L[i]'(by omega) = x at *
    have ih := unAt_take L r p hp i (by omega)
    have l1 := unAt_len (L.take p) r i
    have l2 := unAt_len L r i
    rw [hlen] at l1
    unfold unStep
    rw [ih i (by omega)]
    split
    · exact ih j hj
    · split
      · exact ih j hj
      · split
        · rw [getD_set, getD_set, getD_set, getD_set]
          simp only [List.length_set, l1, l2]
          have e : (behind (i + 1) x.b p = j ∧ j < p + 1) ↔ (behind (i + 1) x.b L.length = j ∧ j < L.length + 1) := by
            unfold behind
            split <;> split <;> omega
          by_cases h1 : i + 1 = j
          · rw [if_pos ⟨h1, by omega⟩, if_pos ⟨h1, by omega⟩]
          · rw [if_neg (show ¬ (i + 1 = j ∧ j < p + 1) from fun e => h1 e.1), if_neg (show ¬ (i + 1 = j ∧ j < L.length + 1) from fun e => h1 e.1)]
            by_cases h2 : behind (i + 1) x.b L.length = j ∧ j < L.length + 1
            · rw [if_pos h2, if_pos (e.2 h2)]
            · rw [if_neg h2, if_neg (fun h => h2 (e.1 h))]
              exact ih j hj
        · rw [getD_set, getD_set, l1, l2]
          by_cases h1 : i + 1 = j
          · rw [if_pos ⟨h1, by omega⟩, if_pos ⟨h1, by omega⟩]
          · rw [if_neg (fun e => h1 e.1), if_neg (fun e => h1 e.1)]
            exact ih j hj
theorem badR_take {L : List I} {r : Int} {p i : Nat} (hp : p ≤ L.length) (hi : i < p) : badR (L.take p) r i = badR L r i := by
  rw [badR, badR, unAt_take L r p hp i (by omega) i hi, List.getElem?_take, if_pos hi]
theorem firstR_take {L : List I} {r : Int} {p : Nat} (hp : p ≤ L.length) : firstR (L.take p) r = firstP (badR L r) p := by
  rw [firstR, List.length_take, Nat.min_eq_left hp]
  exact firstP_congr fun i hi => badR_take hp hi
/-- Some of these registers is read at i while it may be unset. -/
def badS (L : List I) (rs : List Int) (i : Nat) : Bool := rs.any fun r => badR L r i
/-- How much of the code is left to be searched. -/
def leftP (f : Int) (n : Nat) : Nat := if f < 0 then n else f.toNat
theorem fu_no {L : List I} {rs : List Int} {r : Int} {f : Int} {p : Nat} (hf : f = firstP (badS L rs) L.length) (hp : p = leftP f L.length) (h : firstR (L.take p) r = -1) :
    f = firstP (badS L (rs ++ [r])) L.length := by
  rcases firstP_cases (badS L rs) L.length with ⟨h1, h2⟩ | ⟨k, h1, h2, h3, h4⟩
  · rw [h1] at hf
    subst hf
    have hpp : p = L.length := by rw [hp, leftP, if_pos (by omega)]
    subst hpp
    rw [firstR_take (Nat.le_refl _)] at h
    rcases firstP_cases (badR L r) L.length with ⟨g1, g2⟩ | ⟨k, g1, g2, g3, g4⟩
    · refine (firstP_none fun j hj => ?_).symm
      have e1 := h2 j hj
      have e2 := g2 j hj
      simp only [badS, List.any_append, List.any_cons, List.any_nil, Bool.or_false] at e1 ⊢
      rw [e1, e2]; rfl
    · rw [g1] at h; omega
  · rw [h1] at hf
    subst hf
    have hpp : p = k := by rw [hp, leftP, if_neg (by omega)]; omega
    subst hpp
    rw [firstR_take (by omega)] at h
    rcases firstP_cases (badR L r) p with ⟨g1, g2⟩ | ⟨k, g1, g2, g3, g4⟩
    · refine (firstP_at (fun j hj => ?_) h2 ?_).symm
      · have e1 := h4 j hj
        have e2 := g2 j hj
        simp only [badS, List.any_append, List.any_cons, List.any_nil, Bool.or_false] at e1 ⊢
        rw [e1, e2]; rfl
      · simp only [badS, List.any_append] at h3 ⊢
        rw [h3]; rfl
    · rw [g1] at h; omega
theorem fu_yes {L : List I} {rs : List Int} {r : Int} {f g : Int} {p : Nat} (hf : f = firstP (badS L rs) L.length) (hp : p = leftP f L.length) (h : firstR (L.take p) r = g) (hg : ¬ g = -1) :
    g = firstP (badS L (rs ++ [r])) L.length ∧ 0 ≤ g ∧ g < p := by
  have key : p ≤ L.length ∧ ∀ j, j < p → badS L rs j = false := by
    rcases firstP_cases (badS L rs) L.length with ⟨h1, h2⟩ | ⟨k, h1, h2, h3, h4⟩
    · rw [h1] at hf
      subst hf
      have hpp : p = L.length := by rw [hp, leftP, if_pos (by omega)]
      subst hpp
      exact ⟨Nat.le_refl _, h2⟩
    · rw [h1] at hf
      subst hf
      have hpp : p = k := by rw [hp, leftP, if_neg (by omega)]; omega
      subst hpp
      exact ⟨by omega, h4⟩
  rw [firstR_take key.1] at h
  rcases firstP_cases (badR L r) p with ⟨g1, g2⟩ | ⟨k, g1, g2, g3, g4⟩
  · rw [g1] at h; exact absurd h.symm hg
  · rw [g1] at h
    subst h
    refine ⟨(firstP_at (fun j hj => ?_) (by omega) ?_).symm, by omega, by omega⟩
    · have e1 := key.2 j (by omega)
      have e2 := g4 j hj
      simp only [badS, List.any_append, List.any_cons, List.any_nil, Bool.or_false] at e1 ⊢
      rw [e1, e2]; rfl
    · simp only [badS, List.any_append, List.any_cons, List.any_nil, Bool.or_false]
      rw [g3]; simp
/-- All registers that are read, in their order. -/
def readsL (L : List I) : List Int := L.flatMap regsOf
/-- The program's answer. -/
def implFU (L : List I) : Int := firstP (fun i => match L[i]? with
  | some x => (regsOf x).any fun r => (unAt L r i).getD i false
  | none => false) L.length
theorem implFU_of {L : List I} {rs : List Int} (h : ∀ r, r ∈ rs ↔ r ∈ readsL L) : firstP (badS L rs) L.length = implFU L := by
  refine firstP_congr fun i hi => ?_
  have hL : L[i]? = some (L[i]'hi) := List.getElem?_eq_getElem hi
  rw [Bool.eq_iff_iff]
  simp only [badS, badR, hL, List.any_eq_true, Bool.and_eq_true, List.contains_iff_mem]
  constructor
  · rintro ⟨r, -, h1, h2⟩
    exact ⟨r, h2, h1⟩
  · rintro ⟨r, h2, h1⟩
    exact ⟨r, (h r).2 (List.mem_flatMap.2 ⟨_, List.getElem_mem hi, h2⟩), h1, h2⟩
/-! ### The reference's way: all registers at once -/
def meetL (a b : List Bool) (re : Bool) : List Bool := if re then List.zipWith (· && ·) a b else b
def nowOf (s : List Bool) (t : Int) : List Bool := if isReg t then s.set t.toNat true else s
/-- What is set where, and what is reached. -/
structure Flow where
  rows : List (List Bool)
  got : List Bool
def Flow.put (Q : Flow) (now : List Bool) (k : Nat) : Flow := ⟨Q.rows.set k (meetL (Q.rows.getD k []) now (Q.got.getD k false)), Q.got.set k true⟩
def flStep (x : I) (n i : Nat) (Q : Flow) : Flow :=
  if Q.got.getD i false = false then Q
  else if x.op = 10 then Q
  else if x.op = 9 then (Q.put (nowOf (Q.rows.getD i []) (targetOf x)) (i + 1)).put (nowOf (Q.rows.getD i []) (targetOf x)) (behind (i + 1) x.b n)
  else Q.put (nowOf (Q.rows.getD i []) (targetOf x)) (i + 1)
def flAt (L : List I) : Nat → Flow
  | 0 => ⟨(List.replicate (L.length + 1) []).set 0 (List.replicate 8 false), (List.replicate (L.length + 1) false).set 0 true⟩
  | i + 1 => match L[i]? with
    | some x => flStep x L.length i (flAt L i)
    | none => flAt L i
theorem flAt_next {L : List I} {i : Nat} {x : I} (h : L[i]? = some x) : flAt L (i + 1) = flStep x L.length i (flAt L i) := by rw [flAt, h]
/-- Rows of eight where a way leads, empty ones elsewhere. -/
structure Flow.Ok (n : Nat) (Q : Flow) : Prop where
  rows : Q.rows.length = n + 1
  got : Q.got.length = n + 1
  yes : ∀ j, Q.got.getD j false = true → (Q.rows.getD j []).length = 8
theorem getD_setR (U : List (List Bool)) (k j : Nat) (v : List Bool) : (U.set k v).getD j [] = if k = j ∧ j < U.length then v else U.getD j [] := by
  rw [List.getD_eq_getElem?_getD, List.getD_eq_getElem?_getD, List.getElem?_set]
  by_cases h : k = j
  · subst h
    by_cases h2 : k < U.length
    · rw [if_pos rfl, if_pos h2, if_pos ⟨rfl, h2⟩]; rfl
    · rw [if_pos rfl, if_neg h2, if_neg (fun e => h2 e.2), List.getElem?_eq_none (by omega)]
  · rw [if_neg h, if_neg (fun e => h e.1)]
theorem nowOf_len (s : List Bool) (t : Int) : (nowOf s t).length = s.length := by unfold nowOf; split <;> simp
theorem meetL_len {a b : List Bool} {re : Bool} (h : re = true → a.length = b.length) : (meetL a b re).length = b.length := by
  unfold meetL
  split
  · rename_i hr; rw [List.length_zipWith, h hr]; simp
  · rfl
theorem Flow.Ok.put {n k : Nat} {Q : Flow} {now : List Bool} (h : Q.Ok n) (hn : now.length = 8) : (Q.put now k).Ok n := by
  refine ⟨by simp [Flow.put, h.rows], by simp [Flow.put, h.got], fun j hj => ?_⟩
  simp only [Flow.put] at hj ⊢
  rw [getD_set] at hj
  rw [getD_setR]
  by_cases e : k = j ∧ j < n + 1
  · rw [if_pos ⟨e.1, by rw [h.rows]; exact e.2⟩, meetL_len, hn]
    intro hr
    rw [h.yes _ hr, hn]
  · rw [if_neg (by rw [h.rows]; exact e)]
    rw [if_neg (by rw [h.got]; exact e)] at hj
    exact h.yes j hj
theorem flStep_ok {x : I} {n i : Nat} {Q : Flow} (h : Q.Ok n) : (flStep x n i Q).Ok n := by
  unfold flStep
  split
  · exact h
  · rename_i hg
    have hg' : Q.got.getD i false = true := by simpa using hg
    have hn : (nowOf (Q.rows.getD i []) (targetOf x)).length = 8 := by rw [nowOf_len]; exact h.yes i hg'
    split
    · exact h
    · split
      · exact (h.put hn).put hn
      · exact h.put hn
theorem flAt_ok (L : List I) : ∀ i, (flAt L i).Ok L.length
  | 0 => by
    refine ⟨by simp [flAt], by simp [flAt], fun j hj => ?_⟩
    simp only [flAt] at hj ⊢
    rw [getD_set] at hj
    rw [getD_setR]
    by_cases e : 0 = j ∧ j < L.length + 1
    · rw [if_pos ⟨e.1, by simpa using e.2⟩]; simp
    · rw [if_neg (by simpa using e)] at hj
      simp only [List.getD_eq_getElem?_getD, List.getElem?_replicate] at hj
      split at hj <;> cases hj
  | i + 1 => by
    rw [flAt]
    split
    · exact flStep_ok (flAt_ok L i)
    · exact flAt_ok L i
/-- Is the register set in this row? -/
def valR (r : Int) (s : List Bool) : Bool := isReg r && s.getD r.toNat false
def badF (L : List I) (i : Nat) : Bool := (flAt L i).got.getD i false && (match L[i]? with
  | some x => (regsOf x).any fun r => !valR r ((flAt L i).rows.getD i [])
  | none => false)
/-- The reference's answer. -/
def specFU (L : List I) : Int := firstP (badF L) L.length
/-- As the reference has it, the register may be unset there. -/
def unr (r : Int) (Q : Flow) (j : Nat) : Bool := Q.got.getD j false && !valR r (Q.rows.getD j [])
theorem valR_meet {r : Int} {a b : List Bool} (h : a.length = 8) (h2 : b.length = 8) : valR r (List.zipWith (· && ·) a b) = (valR r a && valR r b) := by
  unfold valR
  cases hr : isReg r with
  | false => rfl
  | true =>
    have h8 : r.toNat < 8 := by
      simp only [isReg, inR, decide_eq_true_eq] at hr
      omega
    simp only [Bool.true_and, List.getD_eq_getElem?_getD, List.getElem?_zipWith]
    rw [List.getElem?_eq_getElem (by omega), List.getElem?_eq_getElem (by omega)]
    rfl
theorem valR_now {r t : Int} {s : List Bool} (hs : s.length = 8) : valR r (nowOf s t) = (valR r s || (isReg t && decide (t = r))) := by
  unfold nowOf valR
  cases ht : isReg t with
  | false => simp
  | true =>
    rw [if_pos rfl]
    have h8 : 0 ≤ t ∧ t ≤ 7 := by simpa [isReg, inR] using ht
    cases hr : isReg r with
    | false =>
      have : ¬ t = r := fun e => by rw [e, hr] at ht; cases ht
      simp [this]
    | true =>
      have hr8 : 0 ≤ r ∧ r ≤ 7 := by simpa [isReg, inR] using hr
      rw [getD_set]
      by_cases e : t = r
      · subst e
        rw [if_pos ⟨rfl, by omega⟩]
        simp
      · rw [if_neg (fun h => e (by omega))]
        simp [e]
theorem unr_put {n : Nat} {Q : Flow} (h : Q.Ok n) (now : List Bool) (hn : now.length = 8) (k j : Nat) (hk : k ≤ n) (r : Int) :
    unr r (Q.put now k) j = if k = j then (unr r Q j || !valR r now) else unr r Q j := by
  unfold unr
  simp only [Flow.put, getD_set, getD_setR, h.rows, h.got]
  by_cases e : k = j
  · subst e
    rw [if_pos ⟨rfl, by omega⟩, if_pos ⟨rfl, by omega⟩, if_pos rfl]
    unfold meetL
    cases hg : Q.got.getD k false with
    | false => simp
    | true =>
      rw [if_pos rfl, valR_meet (h.yes k hg) hn]
      cases valR r (Q.rows.getD k []) <;> cases valR r now <;> rfl
  · rw [if_neg (fun h => e h.1), if_neg (fun h => e h.1), if_neg e]
theorem val_step {x : I} {r : Int} {s : List Bool} (hs : s.length = 8) (ht : targetOf x ≤ 7) : (!valR r (nowOf s (targetOf x))) = (!valR r s && !setsR x r) := by
  rw [valR_now hs]
  have e : (isReg (targetOf x) && decide (targetOf x = r)) = setsR x r := by
    unfold setsR isReg inR
    rw [Bool.eq_iff_iff]
    simp only [Bool.and_eq_true, decide_eq_true_eq]
    omega
  rw [e]
  cases valR r s <;> cases setsR x r <;> rfl
theorem un_step {x : I} {r : Int} {n i : Nat} {U : List Bool} {Q : Flow} (h : Q.Ok n) (hU : U.length = n + 1) (hi : i < n) (ht : targetOf x ≤ 7) (hr : ∀ j, j ≤ n → U.getD j false = unr r Q j) :
    ∀ j, j ≤ n → (unStep x r n i U).getD j false = unr r (flStep x n i Q) j := by
  intro j hj
  have hb1 := behind_le (n := n) x.b (by omega : i + 1 ≤ n)
  unfold unStep flStep
  rw [hr i (by omega)]
  cases hg : Q.got.getD i false with
  | false =>
    have : unr r Q i = false := by rw [unr, hg]; rfl
    rw [if_pos this, if_pos rfl]
    exact hr j hj
  | true =>
    have hs := h.yes i hg
    have hn : (nowOf (Q.rows.getD i []) (targetOf x)).length = 8 := by rw [nowOf_len]; exact hs
    have hv := val_step (r := r) hs ht
    have hu : unr r Q i = !valR r (Q.rows.getD i []) := by rw [unr, hg]; rfl
    rw [if_neg (show ¬ (true = false) by simp), hu]
    by_cases h10 : x.op = 10
    · rw [if_pos h10]
      split
      · exact hr j hj
      · rw [if_pos (Or.inl h10)]
        exact hr j hj
    · rw [if_neg h10]
      have hput : ∀ (k : Nat), k ≤ n → (!valR r (nowOf (Q.rows.getD i []) (targetOf x))) = false → ∀ Q' : Flow, Q'.Ok n → unr r (Q'.put (nowOf (Q.rows.getD i []) (targetOf x)) k) j = unr r Q' j := fun k hk hf Q' hQ => by
        rw [unr_put hQ _ hn k j hk r, hf, Bool.or_false]
        split <;> rfl
      cases hvv : (!valR r (nowOf (Q.rows.getD i []) (targetOf x))) with
      | false =>
        have hcase : (!valR r (Q.rows.getD i [])) = false ∨ setsR x r = true := by
          rw [hvv] at hv
          cases hA : (!valR r (Q.rows.getD i [])) with
          | false => exact Or.inl rfl
          | true =>
            rw [hA] at hv
            right
            cases hB : setsR x r with
            | true => rfl
            | false => rw [hB] at hv; cases hv
        have hL : (if (!valR r (Q.rows.getD i [])) = false then U else if x.op = 10 ∨ setsR x r = true then U else if x.op = 9 then (U.set (behind (i + 1) x.b n) true).set (i + 1) true else U.set (i + 1) true) = U := by
          rcases hcase with h1 | h1
          · rw [if_pos h1]
          · rw [if_pos (Or.inr h1)]
            split <;> rfl
        rw [hL, hr j hj]
        split
        · rw [hput _ hb1 hvv _ (h.put hn), hput _ (by omega) hvv _ h]
        · rw [hput _ (by omega) hvv _ h]
      | true =>
        rw [hvv] at hv
        have h1 : (!valR r (Q.rows.getD i [])) = true := by
          cases hA : (!valR r (Q.rows.getD i [])) with
          | true => rfl
          | false => rw [hA] at hv; cases hv
        have h2 : setsR x r = false := by
          rw [h1] at hv
          cases hB : setsR x r with
          | false => rfl
          | true => rw [hB] at hv; cases hv
        rw [h1, if_neg (by simp), if_neg (by rw [h2]; simp [h10])]
        split
        · rw [unr_put (h.put hn) _ hn _ j hb1 r, unr_put h _ hn _ j (by omega) r, hvv, getD_set, getD_set, List.length_set, hU, hr j hj]
          by_cases e1 : i + 1 = j
          · rw [if_pos ⟨e1, by omega⟩, if_pos e1]
            split <;> simp
          · rw [if_neg (fun e => e1 e.1), if_neg e1]
            by_cases e2 : behind (i + 1) x.b n = j
            · rw [if_pos ⟨e2, by omega⟩, if_pos e2]; simp
            · rw [if_neg (fun e => e2 e.1), if_neg e2]
        · rw [unr_put h _ hn _ j (by omega) r, hvv, getD_set, hU, hr j hj]
          by_cases e1 : i + 1 = j
          · rw [if_pos ⟨e1, by omega⟩, if_pos e1]; simp
          · rw [if_neg (fun e => e1 e.1), if_neg e1]
/-- Every instruction but the last one writes a register that there is, or none. -/
def Tame (L : List I) : Prop := ∀ (i : Nat) (x : I), L[i]? = some x → i + 1 < L.length → targetOf x ≤ 7
theorem un_fl {L : List I} (hT : Tame L) (r : Int) : ∀ i, i < L.length → ∀ j, j ≤ L.length → (unAt L r i).getD j false = unr r (flAt L i) j
  | 0, _, j, hj => by
    unfold unr
    simp only [unAt, flAt]
    rw [getD_set, getD_setR]
    simp only [List.length_replicate]
    by_cases e : 0 = j ∧ j < L.length + 1
    · rw [if_pos e, if_pos e]
      have : valR r (List.replicate 8 false) = false := by
        unfold valR
        have : (List.replicate 8 false).getD r.toNat false = false := by
          simp only [List.getD_eq_getElem?_getD, List.getElem?_replicate]
          split <;> rfl
        rw [this, Bool.and_false]
      rw [this]; rfl
    · rw [if_neg e, if_neg e]
      simp only [List.getD_eq_getElem?_getD, List.getElem?_replicate]
      split <;> rfl
  | i + 1, hi, j, hj => by
    have hL : L[i]? = some (L[i]'(by omega)) := List.getElem?_eq_getElem (by omega)
    rw [unAt_next hL, flAt_next hL]
    exact un_step (flAt_ok L i) (unAt_len L r i) (by omega) (hT i _ hL hi) (fun j hj => un_fl hT r i (by omega) j hj) j hj
theorem fu_eq {L : List I} (hT : Tame L) : specFU L = implFU L := by
  refine firstP_congr fun i hi => ?_
  have hL : L[i]? = some (L[i]'hi) := List.getElem?_eq_getElem hi
  rw [badF, hL]
  generalize L[i]'hi = x
  simp only [un_fl hT _ i hi i (by omega), unr]
  cases (flAt L i).got.getD i false with
  | false => simp
  | true => simp
theorem targetOf_ok {x : I} (h : isI x = true) : targetOf x ≤ 7 := by
  unfold targetOf
  split
  · rename_i ho
    have hr : isReg x.a = true := by
      unfold isI at h
      rcases opCases x.op with e | e | e | e | e | e | e | e | e | e | e
      all_goals first
        | omega
        | (simp only [e] at h
           simp [regNum, oneReg, addI, sendI, newI] at h
           simp [h])
    simp only [isReg, inR, decide_eq_true_eq] at hr
    omega
  · omega
theorem tame_ok {L : List I} (h : L.all isI = true) : Tame L := fun i x hx _ => targetOf_ok (List.all_eq_true.1 h x (List.mem_of_getElem? hx))
theorem firstP_lt (p : Nat → Bool) (n : Nat) : firstP p n < n ∧ -1 ≤ firstP p n := by
  rcases firstP_cases p n with ⟨h1, h2⟩ | ⟨k, h1, h2, h3, h4⟩
  · rw [h1]; omega
  · rw [h1]; omega
end Go.Proofs.YtgibhbplgiejpaaGreat
