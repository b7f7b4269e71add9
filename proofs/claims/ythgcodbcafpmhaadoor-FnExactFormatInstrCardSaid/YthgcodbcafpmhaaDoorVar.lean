/- Of no program: varints as lists. 'putU n': the groups of n; 'rdU': what is read off a list's head. -/
import Derived.Test.YthgcodbcafpmhaaDoorKit
namespace Go.Proofs.YthgcodbcafpmhaaDoor

def putU (n : Nat) : List Int := if n < 128 then [(n : Int)] else ((128 + n % 128 : Nat) : Int) :: putU (n / 128)
termination_by n
decreasing_by omega
theorem putU_small {n : Nat} (h : n < 128) : putU n = [(n : Int)] := by rw [putU, if_pos h]
theorem putU_big {n : Nat} (h : ¬ n < 128) : putU n = ((128 + n % 128 : Nat) : Int) :: putU (n / 128) := by rw [putU, if_neg h]
theorem putU_len (k : Nat) : ∀ n : Nat, n < 128 ^ (k + 1) → 1 ≤ (putU n).length ∧ (putU n).length ≤ k + 1 := by
  induction k with
  | zero => intro n h; rw [putU_small (by simpa using h)]; simp
  | succ k ih =>
    intro n h
    by_cases hs : n < 128
    · rw [putU_small hs]; simp
    · rw [putU_big hs]
      have hd : n / 128 < 128 ^ (k + 1) := by
        apply Nat.div_lt_of_lt_mul
        rw [Nat.pow_succ, Nat.mul_comm] at h
        exact h
      have := ih _ hd
      simp only [List.length_cons]
      omega
theorem putU_len6 {n : Nat} (h : n ≤ 1000000000000) : 1 ≤ (putU n).length ∧ (putU n).length ≤ 6 := putU_len 5 n (by omega)
def Byt (zs : List Int) : Prop := ∀ z ∈ zs, 0 ≤ z ∧ z ≤ 255
theorem putU_byt (n : Nat) : Byt (putU n) := by
  induction n using putU.induct with
  | case1 n h => rw [putU_small h]; intro z hz; simp at hz; omega
  | case2 n h ih =>
    rw [putU_big h]
    intro z hz
    rcases List.mem_cons.1 hz with rfl | hz
    · omega
    · exact ih z hz
theorem Byt.append {a b : List Int} (h : Byt a) (k : Byt b) : Byt (a ++ b) := fun z hz => by
  rcases List.mem_append.1 hz with h' | h'
  · exact h z h'
  · exact k z h'
theorem Byt.nil : Byt [] := fun z hz => by cases hz
theorem Byt.drop {a : List Int} (h : Byt a) (n : Nat) : Byt (a.drop n) := fun z hz => h z (List.mem_of_mem_drop hz)
theorem Byt.take {a : List Int} (h : Byt a) (n : Nat) : Byt (a.take n) := fun z hz => h z (List.mem_of_mem_take hz)
theorem Byt.at_ {a : List Int} (h : Byt a) {i : Nat} {z : Int} (hz : a[i]? = some z) : 0 ≤ z ∧ z ≤ 255 := h z (List.mem_of_getElem? hz)

/-- Read off a list's head: the number and how many bytes it took. -/
def rdU : List Int → Nat → Nat → Nat → Option (Nat × Nat)
  | _, 0, _, _ => none
  | [], _ + 1, _, _ => none
  | c :: t, f + 1, i, acc =>
    if c < 128 then (if (c = 0 ∧ 0 < i) ∨ 1000000000000 < acc + c.toNat * 128 ^ i then none else some (acc + c.toNat * 128 ^ i, i + 1))
    else rdU t f (i + 1) (acc + (c.toNat % 128) * 128 ^ i)
theorem rdU_none (t : List Int) (i acc : Nat) : rdU t 0 i acc = none := by cases t <;> rfl
theorem rdU_nil (f i acc : Nat) : rdU [] f i acc = none := by cases f <;> rfl
theorem rdU_last {c : Int} (t : List Int) (f i acc : Nat) (h : c < 128) : rdU (c :: t) (f + 1) i acc = if (c = 0 ∧ 0 < i) ∨ 1000000000000 < acc + c.toNat * 128 ^ i then none else some (acc + c.toNat * 128 ^ i, i + 1) := by
  rw [rdU, if_pos h]
theorem rdU_more {c : Int} (t : List Int) (f i acc : Nat) (h : ¬ c < 128) : rdU (c :: t) (f + 1) i acc = rdU t f (i + 1) (acc + (c.toNat % 128) * 128 ^ i) := by
  rw [rdU, if_neg h]
theorem rdU_put (m : Nat) : ∀ (rest : List Int) (f i acc : Nat), (putU m).length ≤ f → (0 < i → 0 < m) → acc + m * 128 ^ i ≤ 1000000000000 → rdU (putU m ++ rest) f i acc = some (acc + m * 128 ^ i, i + (putU m).length) := by
  induction m using putU.induct with
  | case1 m h =>
    intro rest f i acc hf hi ha
    rw [putU_small h] at hf ⊢
    obtain ⟨f, rfl⟩ : ∃ g, f = g + 1 := ⟨f - 1, by simp at hf; omega⟩
    rw [List.singleton_append, rdU_last _ _ _ _ (by omega), if_neg (by
      rw [Int.toNat_natCast]
      rintro (⟨h1, h2⟩ | h1)
      · have := hi h2; omega
      · omega)]
    simp
  | case2 m h ih =>
    intro rest f i acc hf hi ha
    rw [putU_big h] at hf ⊢
    obtain ⟨f, rfl⟩ : ∃ g, f = g + 1 := ⟨f - 1, by simp at hf; omega⟩
    have e : m % 128 * 128 ^ i + m / 128 * 128 ^ (i + 1) = m * 128 ^ i := by
      rw [Nat.pow_succ, Nat.mul_comm (128 ^ i) 128, ← Nat.mul_assoc, ← Nat.add_mul]
      congr 1
      omega
    rw [List.cons_append, rdU_more _ _ _ _ (by omega), Int.toNat_natCast, show (128 + m % 128) % 128 = m % 128 by omega,
      ih rest f (i + 1) _ (by simp at hf; omega) (fun _ => by omega) (by omega)]
    simp only [List.length_cons]
    rw [Nat.add_assoc acc, e, Nat.add_comm (putU (m / 128)).length 1, Nat.add_assoc]
theorem put_rdU : ∀ (f : Nat) (t : List Int) (i acc v k : Nat), Byt t → rdU t f i acc = some (v, k) →
    ∃ m, v = acc + m * 128 ^ i ∧ t.take (k - i) = putU m ∧ k = i + (putU m).length ∧ k - i ≤ t.length ∧ v ≤ 1000000000000 ∧ (0 < i → 0 < m) := by
  intro f
  induction f with
  | zero => intro t i acc v k _ h; rw [rdU_none] at h; cases h
  | succ f ih =>
    intro t i acc v k hb h
    cases t with
    | nil => rw [rdU_nil] at h; cases h
    | cons c t =>
      have hc := hb c (by simp)
      by_cases hl : c < 128
      · rw [rdU_last _ _ _ _ hl] at h
        split at h
        · cases h
        · rename_i hn
          injection h with h
          injection h with h1 h2
          have hs : c.toNat < 128 := by omega
          refine ⟨c.toNat, h1.symm, ?_, ?_, ?_, by omega, fun h0 => ?_⟩
          · rw [putU_small hs, ← h2, show i + 1 - i = 1 by omega]
            simp; omega
          · rw [putU_small hs]; simp; omega
          · simp; omega
          · have : ¬ (c = 0 ∧ 0 < i) := fun h => hn (Or.inl h)
            omega
      · rw [rdU_more _ _ _ _ hl] at h
        obtain ⟨m, h1, h2, h3, h4, h5, h6⟩ := ih t (i + 1) _ v k (fun z hz => hb z (by simp [hz])) h
        have h0 := h6 (by omega)
        have hbig : ¬ (c.toNat % 128 + 128 * m) < 128 := by omega
        have hput : putU (c.toNat % 128 + 128 * m) = c :: putU m := by
          rw [putU_big hbig, show (c.toNat % 128 + 128 * m) / 128 = m by omega, show (128 + (c.toNat % 128 + 128 * m) % 128) = c.toNat by omega, show ((c.toNat : Nat) : Int) = c by omega]
        refine ⟨c.toNat % 128 + 128 * m, ?_, ?_, ?_, ?_, h5, fun _ => by omega⟩
        · rw [h1, Nat.pow_succ, Nat.add_mul, Nat.add_assoc, Nat.mul_comm (128 ^ i) 128, ← Nat.mul_assoc, Nat.mul_comm m 128]
        · rw [hput, show k - i = (k - (i + 1)) + 1 by omega, List.take_succ_cons, h2]
        · rw [hput]; simp; omega
        · simp; omega
/-- Read at a place. -/
def readU (bs : List Int) (off : Int) : Option (Nat × Nat) := if 0 ≤ off ∧ off < bs.length then rdU (bs.drop off.toNat) 6 0 0 else none
theorem readU_out {bs : List Int} {off : Int} (h : ¬ (0 ≤ off ∧ off < bs.length)) : readU bs off = none := by rw [readU, if_neg h]
theorem readU_in {bs : List Int} {off : Nat} (h : off < bs.length) : readU bs (off : Int) = rdU (bs.drop off) 6 0 0 := by rw [readU, if_pos (by omega), Int.toNat_natCast]
theorem readU_put (a : List Int) (n : Nat) (rest : List Int) (h : n ≤ 1000000000000) : readU (a ++ (putU n ++ rest)) (a.length : Int) = some (n, (putU n).length) := by
  have hl := putU_len6 h
  rw [readU_in (by simp; omega), List.drop_left, rdU_put n rest 6 0 0 hl.2 (by omega) (by omega)]
  simp
theorem put_readU {bs : List Int} {off : Int} {v k : Nat} (hb : Byt bs) (h : readU bs off = some (v, k)) : 0 ≤ off ∧ off + k ≤ bs.length ∧ 1 ≤ k ∧ k ≤ 6 ∧ v ≤ 1000000000000 ∧ (bs.drop off.toNat).take k = putU v := by
  unfold readU at h
  split at h
  · rename_i ho
    obtain ⟨m, h1, h2, h3, h4, h5, -⟩ := put_rdU 6 _ 0 0 v k (hb.drop _) h
    have hm : v = m := by simpa using h1
    subst hm
    have hl := putU_len6 h5
    simp only [Nat.sub_zero, List.length_drop] at h2 h4
    refine ⟨ho.1, by omega, by omega, by omega, h5, h2⟩
  · cases h
end Go.Proofs.YthgcodbcafpmhaaDoor
