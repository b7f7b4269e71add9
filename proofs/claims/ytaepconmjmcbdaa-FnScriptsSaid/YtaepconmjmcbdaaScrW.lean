/- Scripts as plain functions of data, further: the first element that .., rows that are alike. -/
import Derived.Test.YtaepconmjmcbdaaScrV
namespace Go.Proofs.Ytaepconmjmcbdaa
open Go.RowKit
def idxFrom (p : Dat → Bool) : List Dat → Int → Int
  | [], _ => -1
  | d :: L, i => if p d then i else idxFrom p L (i + 1)
/-- The place of the first element that .., or -1. -/
def idx (p : Dat → Bool) (L : List Dat) : Int := idxFrom p L 0
theorem idxFrom_at {p : Dat → Bool} : ∀ {L : List Dat} {i : Nat} {k : Int} {d : Dat}, (∀ (j : Nat) (e : Dat), j < i → L[j]? = some e → p e = false) → L[i]? = some d → p d = true → idxFrom p L k = k + i
  | [], _, _, _, _, h, _ => by simp at h
  | x :: L, 0, k, d, _, h, hn => by
    obtain rfl : x = d := by simpa using h
    rw [idxFrom, if_pos hn]; simp
  | x :: L, i + 1, k, d, h0, h, hn => by
    rw [idxFrom, if_neg (by rw [h0 0 x (by omega) rfl]; simp), idxFrom_at (i := i) (fun j e hj he => h0 (j + 1) e (by omega) (by simpa using he)) (by simpa using h) hn]
    omega
theorem idxFrom_none {p : Dat → Bool} : ∀ {L : List Dat} {k : Int}, (∀ (j : Nat) (e : Dat), L[j]? = some e → p e = false) → idxFrom p L k = -1
  | [], _, _ => rfl
  | x :: L, k, h0 => by
    rw [idxFrom, if_neg (by rw [h0 0 x rfl]; simp)]
    exact idxFrom_none (fun j e he => h0 (j + 1) e (by simpa using he))
theorem idx_at {p : Dat → Bool} {L : List Dat} {i : Nat} {d : Dat} (h : ∀ (j : Nat) (e : Dat), j < i → L[j]? = some e → p e = false) (hd : L[i]? = some d) (hn : p d = true) : (i : Int) = idx p L := by
  rw [idx, idxFrom_at h hd hn]; simp
theorem idx_none {p : Dat → Bool} {L : List Dat} (h : ∀ (j : Nat) (e : Dat), L[j]? = some e → p e = false) : -1 = idx p L := (idxFrom_none h).symm
theorem idxFrom_cases (p : Dat → Bool) : ∀ (L : List Dat) (k : Int), (idxFrom p L k = -1 ∧ ∀ x ∈ L, p x = false) ∨ ∃ (i : Nat) (d : Dat), idxFrom p L k = k + i ∧ L[i]? = some d ∧ p d = true
  | [], _ => Or.inl ⟨rfl, fun x hx => by cases hx⟩
  | x :: L, k => by
    rw [idxFrom]
    cases h : p x with
    | true => exact Or.inr ⟨0, x, by simp, rfl, h⟩
    | false =>
      rw [if_neg (by simp)]
      rcases idxFrom_cases p L (k + 1) with ⟨h1, h2⟩ | ⟨i, d, h1, h2, h3⟩
      · refine Or.inl ⟨h1, fun y hy => ?_⟩
        rcases List.mem_cons.1 hy with rfl | hy
        · exact h
        · exact h2 y hy
      · exact Or.inr ⟨i + 1, d, by rw [h1]; omega, by simpa using h2, h3⟩
theorem idx_cases (p : Dat → Bool) (L : List Dat) : (idx p L = -1 ∧ ∀ x ∈ L, p x = false) ∨ ∃ (i : Nat) (d : Dat), idx p L = i ∧ L[i]? = some d ∧ p d = true ∧ i < L.length := by
  rcases idxFrom_cases p L 0 with h | ⟨i, d, h1, h2, h3⟩
  · exact Or.inl h
  · exact Or.inr ⟨i, d, by rw [idx, h1]; omega, h2, h3, (List.getElem?_eq_some_iff.1 h2).1⟩
theorem idx_any (p : Dat → Bool) (L : List Dat) : decide (0 ≤ idx p L) = L.any p := by
  rcases idx_cases p L with ⟨h, hn⟩ | ⟨i, d, h, hd, hp, hl⟩
  · rw [h]
    have : L.any p = false := by rw [List.any_eq_false]; intro x hx; rw [hn x hx]; simp
    rw [this]; rfl
  · rw [h]
    have : L.any p = true := List.any_eq_true.2 ⟨d, List.mem_of_getElem? hd, hp⟩
    rw [this]; exact decide_eq_true (by omega)
theorem any_not_all (p : Dat → Bool) (L : List Dat) : (!(L.any fun d => !p d)) = L.all p := by
  rw [List.any_eq_not_all_not]
  simp
def named (nm : ByteArray) (d : Dat) : Bool := decide (nameOf d = nm)
theorem findFrom_idx (nm : ByteArray) : ∀ (L : List Dat) (k : Int), findFrom L nm k = idxFrom (named nm) L k
  | [], _ => rfl
  | x :: L, k => by
    rw [findFrom, idxFrom, findFrom_idx nm L]
    by_cases h : nameOf x = nm
    · rw [if_pos h, if_pos (by simpa [named] using h)]
    · rw [if_neg h, if_neg (by simpa [named] using h)]
theorem find_idx (L : List Dat) (nm : ByteArray) : idx (named nm) L = find L nm := (findFrom_idx nm L 0).symm
/-- Two rows that are alike, place by place. -/
def sameL (p : Dat → Dat → Bool) : List Dat → List Dat → Bool
  | [], [] => true
  | a :: L, b :: M => p a b && sameL p L M
  | _, _ => false
theorem sameL_len {p : Dat → Dat → Bool} : ∀ {L M : List Dat}, L.length ≠ M.length → sameL p L M = false
  | [], [], h => absurd rfl h
  | [], _ :: _, _ => rfl
  | _ :: _, [], _ => rfl
  | a :: L, b :: M, h => by
    rw [sameL, sameL_len (by simpa using h), Bool.and_false]
theorem sameL_no {p : Dat → Dat → Bool} : ∀ {L M : List Dat} {i : Nat} {a b : Dat}, L[i]? = some a → M[i]? = some b → p a b = false → sameL p L M = false
  | [], _, _, _, _, h, _, _ => by simp at h
  | _ :: _, [], _, _, _, _, h, _ => by simp at h
  | x :: L, y :: M, 0, a, b, h1, h2, hp => by
    obtain rfl : x = a := by simpa using h1
    obtain rfl : y = b := by simpa using h2
    rw [sameL, hp, Bool.false_and]
  | x :: L, y :: M, i + 1, a, b, h1, h2, hp => by
    rw [sameL, sameL_no (i := i) (by simpa using h1) (by simpa using h2) hp, Bool.and_false]
theorem sameL_yes {p : Dat → Dat → Bool} : ∀ {L M : List Dat}, L.length = M.length → (∀ (i : Nat) (a b : Dat), L[i]? = some a → M[i]? = some b → p a b = true) → sameL p L M = true
  | [], [], _, _ => rfl
  | [], _ :: _, h, _ => by simp at h
  | _ :: _, [], h, _ => by simp at h
  | x :: L, y :: M, h, hp => by
    rw [sameL, hp 0 x y rfl rfl, sameL_yes (by simpa using h) (fun i a b h1 h2 => hp (i + 1) a b (by simpa using h1) (by simpa using h2)), Bool.and_true]
theorem sameL_comm {p : Dat → Dat → Bool} (hp : ∀ a b, p a b = p b a) : ∀ (L M : List Dat), sameL p L M = sameL p M L
  | [], [] => rfl
  | [], _ :: _ => rfl
  | _ :: _, [] => rfl
  | x :: L, y :: M => by rw [sameL, sameL, hp x y, sameL_comm hp L M]
theorem sameL_refl {p : Dat → Dat → Bool} (hp : ∀ a, p a a = true) : ∀ (L : List Dat), sameL p L L = true
  | [] => rfl
  | x :: L => by rw [sameL, hp x, sameL_refl hp L, Bool.and_true]
/-- The first i places are alike. -/
def Alike (p : Dat → Dat → Bool) (L M : List Dat) (i : Nat) : Prop := ∀ (j : Nat) (a b : Dat), j < i → L[j]? = some a → M[j]? = some b → p a b = true
theorem Alike.zero (p : Dat → Dat → Bool) (L M : List Dat) : Alike p L M 0 := fun j a b hj => by omega
theorem Alike.next {p : Dat → Dat → Bool} {L M : List Dat} {i : Nat} {a b : Dat} (h : Alike p L M i) (ha : L[i]? = some a) (hb : M[i]? = some b) (hp : p a b = true) : Alike p L M (i + 1) := fun j x y hj hx hy => by
  by_cases e : j = i
  · subst e
    rw [ha] at hx; rw [hb] at hy
    obtain rfl := Option.some.inj hx
    obtain rfl := Option.some.inj hy
    exact hp
  · exact h j x y (by omega) hx hy
theorem Alike.all {p : Dat → Dat → Bool} {L M : List Dat} {n : Nat} (h : Alike p L M n) (h1 : L.length = n) (h2 : M.length = n) : sameL p L M = true :=
  sameL_yes (by omega) fun i a b ha hb => h i a b (by have := (List.getElem?_eq_some_iff.1 ha).1; omega) ha hb
/-- Two instructions are equal. -/
def eqIns (x y : I) : Bool := decide (x.op = y.op) && decide (x.a = y.a) && decide (x.b = y.b) && decide (x.c = y.c) && decide (x.d = y.d) && decide (x.name = y.name)
def eqInsD (a b : Dat) : Bool := eqIns (insOf a) (insOf b)
def eqMethD (a b : Dat) : Bool := decide (nameOf a = nameOf b) && sameL eqInsD (codeOf a) (codeOf b)
def eqScrD (a b : Dat) : Bool := decide (nameOf a = nameOf b) && sameL eqMethD (codeOf a) (codeOf b)
theorem eqIns_comm (x y : I) : eqIns x y = eqIns y x := by
  unfold eqIns
  simp only [eq_comm]
theorem eqIns_refl (x : I) : eqIns x x = true := by simp [eqIns]
theorem eqMethD_comm (a b : Dat) : eqMethD a b = eqMethD b a := by
  rw [eqMethD, eqMethD, sameL_comm (p := eqInsD) (fun a b => eqIns_comm _ _)]
  simp only [eq_comm]
theorem eqMethD_refl (a : Dat) : eqMethD a a = true := by
  rw [eqMethD, sameL_refl (p := eqInsD) (fun a => eqIns_refl _)]
  simp
theorem eqScrD_comm (a b : Dat) : eqScrD a b = eqScrD b a := by
  rw [eqScrD, eqScrD, sameL_comm eqMethD_comm]
  simp only [eq_comm]
theorem eqScrD_refl (a : Dat) : eqScrD a a = true := by
  rw [eqScrD, sameL_refl eqMethD_refl]
  simp
end Go.Proofs.Ytaepconmjmcbdaa
