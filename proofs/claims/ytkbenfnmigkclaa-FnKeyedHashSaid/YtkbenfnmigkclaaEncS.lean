/- The reference's encoders, and both EncodeInts. -/
import Derived.Test.YtkbenfnmigkclaaEnc
import Derived.Test.YtkbenfnmigkclaaSlI
namespace Go.Proofs.Ytkbenfnmigkclaa
open Go.RowKit
theorem l1In_true (n a b : Int) (w : World) (h1 : a ≤ n) (h2 : n ≤ b) : Calls Try.prog 52 #[.int .i64 n, .int .i64 a, .int .i64 b] w fun e w' => e = .returned (.bool true) ∧ w = w' := by
  go_enter Try.func52, Try.ntmps52
  go_wp2
  go_ret
  exact ⟨rfl, rfl⟩
theorem l1In_false (n a b : Int) (w : World) (h1 : ¬ (a ≤ n ∧ n ≤ b)) : Calls Try.prog 52 #[.int .i64 n, .int .i64 a, .int .i64 b] w fun e w' => e = .returned (.bool false) ∧ w = w' := by
  by_cases h : a ≤ n
  · have h2 : ¬ n ≤ b := fun h' => h1 ⟨h, h'⟩
    clear h1
    go_enter Try.func52, Try.ntmps52
    go_wp2
    go_ret
    exact ⟨rfl, rfl⟩
  · clear h1
    go_enter Try.func52, Try.ntmps52
    go_wp2
    go_ret
    exact ⟨rfl, rfl⟩
/-- The bytes of a list of numbers. -/
def encL : List Int → List Int
  | [] => []
  | x :: l => encU x ++ encL l
theorem encL_append (a b : List Int) : encL (a ++ b) = encL a ++ encL b := by
  induction a with
  | nil => rfl
  | cons x a ih => show encU x ++ encL (a ++ b) = _; rw [ih, ← List.append_assoc]; rfl
theorem encL_len (a : List Int) : (encL a).length ≤ 6 * a.length := by
  induction a with
  | nil => simp [encL]
  | cons x a ih =>
    have := encU_len x
    simp only [encL, List.length_append, List.length_cons]
    omega
theorem encL_snoc (zs : List Int) (i : Nat) (z : Int) (h : zs[i]? = some z) : encL (zs.take (i + 1)) = encL (zs.take i) ++ encU z := by
  have hi := (List.getElem?_eq_some_iff.1 h).1
  have hz := (List.getElem?_eq_some_iff.1 h).2
  rw [List.take_succ_eq_append_getElem hi, encL_append, hz]
  show _ ++ (encU z ++ []) = _
  rw [List.append_nil]
theorem encL_byt (a : List Int) : Byt (encL a) := by
  induction a with
  | nil => exact Byt.nil
  | cons x a ih => exact (encU_byt x).append ih
/-- The first i are laid. -/
def Laying (w : World) (zs : List Int) (i : Nat) (A : Option Addr) (n c : Nat) (wr : World) : Prop :=
  Own .u8 5 w.heap.size wr.heap.size wr A n c (encL (zs.take i)) ∧ Below w.heap.size w wr
theorem Laying.len {w wr : World} {zs : List Int} {i n c : Nat} {A : Option Addr} (h : Laying w zs i A n c wr) : n ≤ 6 * zs.length := by
  have h1 := h.1.1
  have h2 := encL_len (zs.take i)
  have h3 : (zs.take i).length ≤ zs.length := by rw [List.length_take]; omega
  omega
theorem Laying.ret {w wr : World} {zs : List Int} {i n c : Nat} {A : Option Addr} (h : Laying w zs i A n c wr) (hi : zs.length = i) : Fresh .u8 5 (encL zs) w (.returned (.slice A n c)) wr := by
  have h1 := h.1
  rw [List.take_of_length_le (by omega)] at h1
  exact Fresh.ret h1 h.2
theorem Laying.start (w : World) (zs : List Int) : Laying w zs 0 (some ⟨w.heap.size, 0, none⟩) 0 0 (w.alloc (.cells #[] 5)) := by
  refine ⟨(Own.none_ .u8 5 w).more (by simp) (Nat.le_refl _), (Below.refl _ _).alloc (Nat.le_refl _) _⟩
end Go.Proofs.Ytkbenfnmigkclaa
