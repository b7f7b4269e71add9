/- The reference's chapter 4: each as its answer. -/
import Derived.Test.YtfgijebgnkikpaaVal
import Derived.Test.YtfgijebgnkikpaaMods
import Derived.Handy
namespace Go.Proofs.Ytfgijebgnkikpaa
open Go.RowKit
def isVal (v : V) (e : Int) : Bool := decide ((v.kind = 0 ∧ 0 ≤ v.n ∧ v.n ≤ 999999) ∨ (v.kind = 1 ∧ 0 ≤ v.n ∧ v.n < e) ∨ (v.kind = 2 ∧ v.n = 0))
theorem isVal_yes {v : V} {e : Int} (h : (v.kind = 0 ∧ 0 ≤ v.n ∧ v.n ≤ 999999) ∨ (v.kind = 1 ∧ 0 ≤ v.n ∧ v.n < e) ∨ (v.kind = 2 ∧ v.n = 0)) : isVal v e = true := decide_eq_true h
theorem isVal_no {v : V} {e : Int} (h : ¬ ((v.kind = 0 ∧ 0 ≤ v.n ∧ v.n ≤ 999999) ∨ (v.kind = 1 ∧ 0 ≤ v.n ∧ v.n < e) ∨ (v.kind = 2 ∧ v.n = 0))) : isVal v e = false := decide_eq_false h
def intV (n : Int) : V := ⟨0, n % 1000000⟩
def addV (a b : V) : V := if a.kind = 0 ∧ b.kind = 0 ∧ (0 ≤ a.n ∧ a.n ≤ 999999) ∧ (0 ≤ b.n ∧ b.n ≤ 999999) then intV (a.n + b.n) else ⟨2, 0⟩
theorem addV_yes {a b : V} (h : a.kind = 0 ∧ b.kind = 0 ∧ (0 ≤ a.n ∧ a.n ≤ 999999) ∧ (0 ≤ b.n ∧ b.n ≤ 999999)) : addV a b = intV (a.n + b.n) := if_pos h
theorem addV_no {a b : V} (h : ¬ (a.kind = 0 ∧ b.kind = 0 ∧ (0 ≤ a.n ∧ a.n ≤ 999999) ∧ (0 ≤ b.n ∧ b.n ≤ 999999))) : addV a b = ⟨2, 0⟩ := if_neg h
def isNum (v : V) (n : Int) : Bool := decide (v.kind = 0 ∧ v.n = n)
theorem isNum_zero (m n : Int) : isNum ⟨0, m⟩ n = (m == n) := by simp [isNum]; rfl
theorem isNum_no {k m n : Int} (h : ¬ k = 0) : isNum ⟨k, m⟩ n = false := by simp [isNum, h]
theorem isVal_two (n e : Int) : isVal ⟨2, n⟩ e = (n == 0) := by simp [isVal]; rfl
def areVals (L : List V) (e : Int) : Bool := L.all fun v => isVal v e
theorem GivesBool.of {b c : Bool} {w w' : World} (h : b = c) (hb : Below w.heap.size w w') : GivesBool c w (.returned (.bool b)) w' := ⟨by rw [h], hb⟩
theorem isVal_int (n e : Int) (h0 : 0 ≤ n) (h1 : n ≤ 999999) : isVal ⟨0, n⟩ e = true := isVal_yes (Or.inl ⟨rfl, h0, h1⟩)
theorem isVal_intn (n e : Int) (h : ¬ (0 ≤ n ∧ n ≤ 999999)) : isVal ⟨0, n⟩ e = false := isVal_no fun hc => by
  rcases hc with ⟨-, hc⟩ | ⟨hc, -⟩ | ⟨hc, -⟩
  · exact h hc
  · cases hc
  · cases hc
theorem isVal_ref (n e : Int) (h0 : 0 ≤ n) (h1 : n < e) : isVal ⟨1, n⟩ e = true := isVal_yes (Or.inr (Or.inl ⟨rfl, h0, h1⟩))
theorem isVal_refn (n e : Int) (h : ¬ (0 ≤ n ∧ n < e)) : isVal ⟨1, n⟩ e = false := isVal_no fun hc => by
  rcases hc with ⟨hc, -⟩ | ⟨-, hc⟩ | ⟨hc, -⟩
  · cases hc
  · exact h hc
  · cases hc
theorem isVal_other (k n e : Int) (h0 : ¬ k = 0) (h1 : ¬ k = 1) (h2 : ¬ k = 2) : isVal ⟨k, n⟩ e = false := isVal_no fun hc => by
  rcases hc with ⟨hc, -⟩ | ⟨hc, -⟩ | ⟨hc, -⟩
  · exact h0 hc
  · exact h1 hc
  · exact h2 hc
theorem specIsVal (v : V) (e : Int) (w : World) : Calls Try.prog 85 #[.agg #[.int .i64 v.kind, .int .i64 v.n], .int .i64 e] w (GivesBool (isVal v e) w) := by
  have hB : ∀ o, Below w.heap.size w (w.alloc o) := fun o => (Below.refl _ _).alloc (Nat.le_refl _) o
  have HB := Lib.hid hB
  obtain ⟨k, n⟩ := v
  clear hB
  by_cases h0 : k = 0
  · subst h0
    by_cases h1 : 0 ≤ n
    · by_cases h2 : n ≤ 999999
      · have hE := Lib.hid (isVal_int n e h1 h2)
        go_enter Try.func85, Try.ntmps85
        go_wp2
        go_ret
        exact GivesBool.of hE.out.symm (HB.out _)
      · have hE := Lib.hid (isVal_intn n e (fun h => h2 h.2))
        go_enter Try.func85, Try.ntmps85
        go_wp2
        go_ret
        exact GivesBool.of hE.out.symm (HB.out _)
    · have hE := Lib.hid (isVal_intn n e (fun h => h1 h.1))
      go_enter Try.func85, Try.ntmps85
      go_wp2
      go_ret
      exact GivesBool.of hE.out.symm (HB.out _)
  by_cases h1 : k = 1
  · subst h1
    by_cases h1 : 0 ≤ n
    · by_cases h2 : n < e
      · have hE := Lib.hid (isVal_ref n e h1 h2)
        go_enter Try.func85, Try.ntmps85
        go_wp2
        go_ret
        exact GivesBool.of hE.out.symm (HB.out _)
      · have hE := Lib.hid (isVal_refn n e (fun h => h2 h.2))
        go_enter Try.func85, Try.ntmps85
        go_wp2
        go_ret
        exact GivesBool.of hE.out.symm (HB.out _)
    · have hE := Lib.hid (isVal_refn n e (fun h => h1 h.1))
      go_enter Try.func85, Try.ntmps85
      go_wp2
      go_ret
      exact GivesBool.of hE.out.symm (HB.out _)
  by_cases h2 : k = 2
  · subst h2
    have hE := Lib.hid (isVal_two n e)
    go_enter Try.func85, Try.ntmps85
    go_wp2
    go_ret
    exact GivesBool.of hE.out.symm (HB.out _)
  · have hE := Lib.hid (isVal_other k n e h0 h1 h2)
    go_enter Try.func85, Try.ntmps85
    go_wp2
    go_ret
    exact GivesBool.of hE.out.symm (HB.out _)
theorem specIntV (n : Int) (w : World) : Calls Try.prog 79 #[.int .i64 n] w (GivesV (intV n) w) := by
  go_enter Try.func79, Try.ntmps79
  go_wp2_with ((with_reducible refine (specModA n 1000000 _ (by omega) (by omega)).mono ?_); rintro e w' ⟨rfl, rfl⟩)
  go_returns
  exact GivesV.ret rfl rfl ((Below.refl _ _).alloc (Nat.le_refl _) _)
theorem l1In_t (n a b : Int) (w : World) (h1 : a ≤ n) (h2 : n ≤ b) : Calls Try.prog 55 #[.int .i64 n, .int .i64 a, .int .i64 b] w fun e w' => e = .returned (.bool true) ∧ w = w' := by
  go_enter Try.func55, Try.ntmps55
  go_wp2
  go_ret
  exact ⟨rfl, rfl⟩
theorem specRefV (n : Int) (w : World) : Calls Try.prog 95 #[.int .i64 n] w (GivesV ⟨1, n⟩ w) := by
  go_enter Try.func95, Try.ntmps95
  go_wp2
  go_returns
  exact GivesV.ret rfl rfl ((Below.refl _ _).alloc (Nat.le_refl _) _)
theorem specBroV (w : World) : Calls Try.prog 96 #[] w (GivesV ⟨2, 0⟩ w) := by
  go_enter Try.func96, Try.ntmps96
  go_wp2
  go_returns
  exact GivesV.ret rfl rfl ((Below.refl _ _).alloc (Nat.le_refl _) _)
end Go.Proofs.Ytfgijebgnkikpaa
