/- Chapter 11, plain: data that are alike; the first element that ..; valid wires and messages. -/
import Derived.Test.YtchofnligbgigaaTyM1
import Derived.Test.YtchofnligbgigaaInsA
import Derived.LoopTactic
import Derived.Lib.Hide
import Derived.Deep.QuietTactic
import Derived.BigQuiet
import Derived.Deep.RegionWith
import Derived.Handy
namespace Go.Proofs.Ytchofnligbgigaa
open Go.RowKit
set_option linter.unusedVariables false
set_option linter.unusedSimpArgs false
/-- Two lists of data are one. -/
noncomputable def eqD (L M : List Dat) : Bool := @decide (L = M) (Classical.propDecidable _)
theorem eqD_yes (L : List Dat) : eqD L L = true := @decide_eq_true _ (Classical.propDecidable _) rfl
theorem eqD_no {L M : List Dat} (h : ¬ L = M) : eqD L M = false := @decide_eq_false _ (Classical.propDecidable _) h
theorem eqD_iff {L M : List Dat} : eqD L M = true ↔ L = M := by
  constructor
  · intro h
    exact @of_decide_eq_true _ (Classical.propDecidable _) h
  · rintro rfl
    exact eqD_yes _
theorem eqD_len {L M : List Dat} {n m : Nat} (h : L.length = n) (h' : M.length = m) (hn : ¬ n = m) : eqD L M = false := eqD_no fun e => hn (by rw [← h, ← h', e])
theorem eqD_at {L M : List Dat} {i : Nat} {x y : Dat} (h : L[i]? = some x) (h' : M[i]? = some y) (hz : ¬ x = y) : eqD L M = false := eqD_no fun e => hz (by rw [e, h'] at h; exact (Option.some.inj h).symm)
theorem eqD_all {L M : List Dat} {n : Nat} (h : L.length = n) (h' : M.length = n) (hs : L.take n = M.take n) : eqD L M = true := by
  rw [List.take_of_length_le (by omega), List.take_of_length_le (by omega)] at hs
  rw [hs]
  exact eqD_yes _
theorem take_nextD {L M : List Dat} {i : Nat} {x : Dat} (hs : L.take i = M.take i) (h : L[i]? = some x) (h' : M[i]? = some x) : L.take (i + 1) = M.take (i + 1) := by
  rw [List.take_add_one, List.take_add_one, hs, h, h']
theorem bytesNe {a b : ByteArray} (h : ¬ a = b) : ¬ a.toList = b.toList := fun e => h (by
  rw [ByteArray.toList_eq, ByteArray.toList_eq] at e
  obtain ⟨⟨x⟩⟩ := a
  obtain ⟨⟨y⟩⟩ := b
  simp only at e
  subst e
  rfl)
theorem bytesNeb {a b : ByteArray} (h : ¬ a = b) : (a.toList == b.toList) = false := by simpa using bytesNe h
/-- Two data are one. -/
noncomputable def eq1 (d d' : Dat) : Bool := @decide (d = d') (Classical.propDecidable _)
theorem eq1_yes (d : Dat) : eq1 d d = true := @decide_eq_true _ (Classical.propDecidable _) rfl
theorem eq1_no {d d' : Dat} (h : ¬ d = d') : eq1 d d' = false := @decide_eq_false _ (Classical.propDecidable _) h
theorem eq1_iff {d d' : Dat} : eq1 d d' = true ↔ d = d' := by
  constructor
  · intro h
    exact @of_decide_eq_true _ (Classical.propDecidable _) h
  · rintro rfl
    exact eq1_yes _
def idxFrom (p : Dat → Bool) : List Dat → Int → Int
  | [], _ => -1
  | d :: L, i => if p d then i else idxFrom p L (i + 1)
/-- The place of the first element that .., or -1. -/
def idx (p : Dat → Bool) (L : List Dat) : Int := idxFrom p L 0
theorem idxFrom_at {p : Dat → Bool} : ∀ {L : List Dat} {i : Nat} {k : Int} {d : Dat}, (∀ (j : Nat) (e : Dat), j < i → L[j]? = some e → p e = false) → L[i]? = some d → p d = true → idxFrom p L k = k + i
  | [], _, _, _, _, h, _ => by simp at h
  | x :: L, 0, k, d, _, h, hn => by
    obtain rfl : x = d := by simpa using h
    rw [idxFrom, if_pos hn]; simp
  | x :: L, i + 1, k, d, h0, h, hn => by
    rw [idxFrom, if_neg (by rw [h0 0 x (by omega) rfl]; simp), idxFrom_at (i := i) (fun j e hj he => h0 (j + 1) e (by omega) (by simpa using he)) (by simpa using h) hn]
    omega
theorem idxFrom_none {p : Dat → Bool} : ∀ {L : List Dat} {k : Int}, (∀ (j : Nat) (e : Dat), L[j]? = some e → p e = false) → idxFrom p L k = -1
  | [], _, _ => rfl
  | x :: L, k, h0 => by
    rw [idxFrom, if_neg (by rw [h0 0 x rfl]; simp)]
    exact idxFrom_none (fun j e he => h0 (j + 1) e (by simpa using he))
theorem idx_at {p : Dat → Bool} {L : List Dat} {i : Nat} {d : Dat} (h : ∀ (j : Nat) (e : Dat), j < i → L[j]? = some e → p e = false) (hd : L[i]? = some d) (hn : p d = true) : (i : Int) = idx p L := by
  rw [idx, idxFrom_at h hd hn]; simp
theorem idx_none {p : Dat → Bool} {L : List Dat} (h : ∀ (j : Nat) (e : Dat), L[j]? = some e → p e = false) : -1 = idx p L := (idxFrom_none h).symm
theorem idxFrom_cases (p : Dat → Bool) : ∀ (L : List Dat) (k : Int), (idxFrom p L k = -1 ∧ ∀ x ∈ L, p x = false) ∨ ∃ (i : Nat) (d : Dat), idxFrom p L k = k + i ∧ L[i]? = some d ∧ p d = true
  | [], _ => Or.inl ⟨rfl, fun x hx => by cases hx⟩
  | x :: L, k => by
    rw [idxFrom]
    cases h : p x with
    | true => exact Or.inr ⟨0, x, by simp, rfl, h⟩
    | false =>
      rw [if_neg (by simp)]
      rcases idxFrom_cases p L (k + 1) with ⟨h1, h2⟩ | ⟨i, d, h1, h2, h3⟩
      · refine Or.inl ⟨h1, fun y hy => ?_⟩
        rcases List.mem_cons.1 hy with rfl | hy
        · exact h
        · exact h2 y hy
      · exact Or.inr ⟨i + 1, d, by rw [h1]; omega, by simpa using h2, h3⟩
theorem idx_cases (p : Dat → Bool) (L : List Dat) : (idx p L = -1 ∧ ∀ x ∈ L, p x = false) ∨ ∃ (i : Nat) (d : Dat), idx p L = i ∧ L[i]? = some d ∧ p d = true ∧ i < L.length := by
  rcases idxFrom_cases p L 0 with h | ⟨i, d, h1, h2, h3⟩
  · exact Or.inl h
  · exact Or.inr ⟨i, d, by rw [idx, h1]; omega, h2, h3, (List.getElem?_eq_some_iff.1 h2).1⟩
theorem idx_any (p : Dat → Bool) (L : List Dat) : decide (0 ≤ idx p L) = L.any p := by
  rcases idx_cases p L with ⟨h, hn⟩ | ⟨i, d, h, hd, hp, hl⟩
  · rw [h]
    have : L.any p = false := by rw [List.any_eq_false]; intro x hx; rw [hn x hx]; simp
    rw [this]; rfl
  · rw [h]
    have : L.any p = true := List.any_eq_true.2 ⟨d, List.mem_of_getElem? hd, hp⟩
    rw [this]; exact decide_eq_true (by omega)
def fld (k : Nat) : Dat → Int
  | .r ds => match ds[k]? with
    | some (.i n) => n
    | _ => 0
  | _ => 0
def isF (k : Nat) (x : Int) (d : Dat) : Bool := fld k d == x
theorem isF_t {k : Nat} {x : Int} {d : Dat} (h : fld k d = x) : isF k x d = true := by simp [isF, h]
theorem isF_f {k : Nat} {x : Int} {d : Dat} (h : ¬ fld k d = x) : isF k x d = false := by simp [isF, h]
theorem idx_first {p : Dat → Bool} : ∀ {L : List Dat} {k : Int} {i : Nat}, idxFrom p L k = k + i → (∀ (j : Nat) (e : Dat), j < i → L[j]? = some e → p e = false)
  | [], _, _, _ => fun j e _ h => by simp at h
  | x :: L, k, i, h => fun j e hj he => by
    rw [idxFrom] at h
    cases hp : p x with
    | true => rw [hp, if_pos rfl] at h; omega
    | false =>
      rw [hp, if_neg (by simp)] at h
      cases j with
      | zero => obtain rfl : x = e := by simpa using he
                exact hp
      | succ j =>
        obtain ⟨i', rfl⟩ : ∃ i', i = i' + 1 := ⟨i - 1, by omega⟩
        exact idx_first (k := k + 1) (i := i') (by rw [h]; omega) j e (by omega) (by simpa using he)
theorem idx_cases1 (p : Dat → Bool) (L : List Dat) : (idx p L = -1 ∧ ∀ x ∈ L, p x = false) ∨ ∃ (i : Nat) (d : Dat), idx p L = i ∧ L[i]? = some d ∧ p d = true ∧ i < L.length ∧ ∀ (j : Nat) (e : Dat), j < i → L[j]? = some e → p e = false := by
  rcases idx_cases p L with h | ⟨i, d, h1, h2, h3, h4⟩
  · exact Or.inl h
  · exact Or.inr ⟨i, d, h1, h2, h3, h4, idx_first (k := 0) (by rw [← idx, h1]; omega)⟩
theorem no_next {p : Dat → Bool} {L : List Dat} {i : Nat} {d : Dat} (h : ∀ (j : Nat) (e : Dat), j < i → L[j]? = some e → p e = false) (hd : L[i]? = some d) (hp : p d = false) : ∀ (j : Nat) (e : Dat), j < i + 1 → L[j]? = some e → p e = false := fun j e hj hje => by
  by_cases hji : j < i
  · exact h j e hji hje
  · obtain rfl : j = i := by omega
    rw [hd] at hje
    obtain rfl := Option.some.inj hje
    exact hp
/-! ### Wires and messages that are valid -/
def numB (n : Int) : Bool := inR n 0 999999
def oneB (n : Int) : Bool := inR n 1 999999
def wireB (k n : Int) : Bool := if k = 0 then numB n else if k = 1 ∨ k = 2 then oneB n else decide (k = 3) && decide (n = 0)
def wireD (d : Dat) : Bool := wireB (fld 0 d) (fld 1 d)
def oneTo (p a : Int) : Bool := if p = 0 then oneB a else oneB p && decide (a = 0)
def zz (a b : Int) : Bool := decide (a = 0) && decide (b = 0)
def zzz (a b c : Int) : Bool := decide (a = 0) && decide (b = 0) && decide (c = 0)
def tagB (a b c : Int) : Bool := oneB a && numB b && oneB c
def argsB (L : List Dat) : Bool := decide (L.length ≤ 2) && L.all wireD
def calmB (f2 : Int) (f4 : ByteArray) (L5 : List Dat) (f8_0 f8_1 f8_2 : Int) : Bool := decide (f2 = 0) && decide (f4.size = 0) && decide (L5.length = 0) && zzz f8_0 f8_1 f8_2
/-- A message is valid. -/
def msgB (f0 f1 f2 f3 : Int) (f4 : ByteArray) (L5 : List Dat) (f6_0 f6_1 f7 f8_0 f8_1 f8_2 : Int) : Bool :=
  if f0 = 1 then zz f6_0 f6_1 && decide (f7 = 0) && oneTo f1 f2 && oneB f3 && isName f4 && argsB L5 && tagB f8_0 f8_1 f8_2
  else if f0 = 2 then calmB f2 f4 L5 f8_0 f8_1 f8_2 && decide (f1 = 0) && decide (f7 = 0) && oneB f3 && wireB f6_0 f6_1
  else if f0 = 3 ∨ f0 = 4 ∨ f0 = 5 then calmB f2 f4 L5 f8_0 f8_1 f8_2 && decide (f1 = 0) && decide (f7 = 0) && zz f6_0 f6_1 && oneB f3
  else if f0 = 6 then calmB f2 f4 L5 f8_0 f8_1 f8_2 && decide (f3 = 0) && zz f6_0 f6_1 && oneB f1 && oneB f7
  else false
theorem size0 {s : ByteArray} : s.size = 0 ↔ s = ⟨#[]⟩ := by
  constructor
  · intro h
    obtain ⟨⟨l⟩⟩ := s
    have h' : l.length = 0 := h
    rw [List.length_eq_zero_iff.1 h']
  · rintro rfl; rfl
theorem eqCall (f0 f1 f2 f3 : Int) (f4 : ByteArray) (L5 : List Dat) (f6_0 f6_1 f7 f8_0 f8_1 f8_2 : Int) : eq1 (.r [.i f0, .i f1, .i f2, .i f3, .s f4, .l L5, .r [.i f6_0, .i f6_1], .i f7, .r [.i f8_0, .i f8_1, .i f8_2]]) (.r [.i f0, .i f1, .i f2, .i f3, .s f4, .l L5, .r [.i 0, .i 0], .i 0, .r [.i f8_0, .i f8_1, .i f8_2]]) = (zz f6_0 f6_1 && decide (f7 = 0)) := by
  rw [Bool.eq_iff_iff, eq1_iff]
  simp [calmB, zz, zzz, size0, List.length_eq_zero_iff]
  try (constructor <;> rintro ⟨⟩ <;> simp_all <;> rfl)
theorem eqRet (f0 f1 f2 f3 : Int) (f4 : ByteArray) (L5 : List Dat) (f6_0 f6_1 f7 f8_0 f8_1 f8_2 : Int) : eq1 (.r [.i f0, .i f1, .i f2, .i f3, .s f4, .l L5, .r [.i f6_0, .i f6_1], .i f7, .r [.i f8_0, .i f8_1, .i f8_2]]) (.r [.i f0, .i 0, .i 0, .i f3, .s ⟨#[]⟩, .l [], .r [.i f6_0, .i f6_1], .i 0, .r [.i 0, .i 0, .i 0]]) = (calmB f2 f4 L5 f8_0 f8_1 f8_2 && decide (f1 = 0) && decide (f7 = 0)) := by
  rw [Bool.eq_iff_iff, eq1_iff]
  simp [calmB, zz, zzz, size0, List.length_eq_zero_iff]
  try (constructor <;> rintro ⟨⟩ <;> simp_all <;> rfl)
theorem eqQu (f0 f1 f2 f3 : Int) (f4 : ByteArray) (L5 : List Dat) (f6_0 f6_1 f7 f8_0 f8_1 f8_2 : Int) : eq1 (.r [.i f0, .i f1, .i f2, .i f3, .s f4, .l L5, .r [.i f6_0, .i f6_1], .i f7, .r [.i f8_0, .i f8_1, .i f8_2]]) (.r [.i f0, .i 0, .i 0, .i f3, .s ⟨#[]⟩, .l [], .r [.i 0, .i 0], .i 0, .r [.i 0, .i 0, .i 0]]) = (calmB f2 f4 L5 f8_0 f8_1 f8_2 && decide (f1 = 0) && decide (f7 = 0) && zz f6_0 f6_1) := by
  rw [Bool.eq_iff_iff, eq1_iff]
  simp [calmB, zz, zzz, size0, List.length_eq_zero_iff]
  try (constructor <;> rintro ⟨⟩ <;> simp_all <;> rfl)
theorem eqRel (f0 f1 f2 f3 : Int) (f4 : ByteArray) (L5 : List Dat) (f6_0 f6_1 f7 f8_0 f8_1 f8_2 : Int) : eq1 (.r [.i f0, .i f1, .i f2, .i f3, .s f4, .l L5, .r [.i f6_0, .i f6_1], .i f7, .r [.i f8_0, .i f8_1, .i f8_2]]) (.r [.i f0, .i f1, .i 0, .i 0, .s ⟨#[]⟩, .l [], .r [.i 0, .i 0], .i f7, .r [.i 0, .i 0, .i 0]]) = (calmB f2 f4 L5 f8_0 f8_1 f8_2 && decide (f3 = 0) && zz f6_0 f6_1) := by
  rw [Bool.eq_iff_iff, eq1_iff]
  simp [calmB, zz, zzz, size0, List.length_eq_zero_iff]
  try (constructor <;> rintro ⟨⟩ <;> simp_all <;> rfl)
end Go.Proofs.Ytchofnligbgigaa
