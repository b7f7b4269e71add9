/- Of no program: bits of an int, as arithmetic. -/
import Derived.Test.YtchofnligbgigaaBase
import Derived.IntWalk
namespace Go.Proofs.Ytchofnligbgigaa
open Go.RowKit
theorem i64_and127 (n : Int) : bits .and .i64 n 127 = n % 128 := by
  have h255 : (BitVec.ofInt 64 127).toNat = 2 ^ 7 - 1 := by decide
  have key : (BitVec.ofInt 64 n &&& BitVec.ofInt 64 127).toNat = (n % ((2 ^ 64 : Nat) : Int)).toNat % 2 ^ 7 := by
    rw [BitVec.toNat_and, BitVec.toNat_ofInt, h255, Nat.and_two_pow_sub_one_eq_mod]
  show IntKind.i64.wrap ((BitVec.ofInt 64 n &&& BitVec.ofInt 64 127).toNat : Nat) = n % 128
  rw [key, IntKind.wrap_i64]
  omega
theorem i64_or (a b : Nat) (ha : a < 2 ^ 62) (hb : b < 2 ^ 62) : bits .or .i64 (a : Int) (b : Int) = ((a ||| b : Nat) : Int) := by
  have h1 : (BitVec.ofInt 64 (a : Int)).toNat = a := by rw [BitVec.toNat_ofInt]; omega
  have h2 : (BitVec.ofInt 64 (b : Int)).toNat = b := by rw [BitVec.toNat_ofInt]; omega
  have h3 : a ||| b < 2 ^ 62 := Nat.or_lt_two_pow ha hb
  show IntKind.i64.wrap ((BitVec.ofInt 64 (a : Int) ||| BitVec.ofInt 64 (b : Int)).toNat : Nat) = _
  rw [BitVec.toNat_or, h1, h2, IntKind.wrap_i64]
  omega
theorem or_add (acc x k : Nat) (h : acc < 2 ^ k) : acc ||| (x * 2 ^ k) = acc + x * 2 ^ k := by
  have := Nat.shiftLeft_add_eq_or_of_lt h x
  rw [Nat.shiftLeft_eq] at this
  rw [Nat.or_comm, ← this, Nat.add_comm]
theorem grp (m : Nat) : bits .or .i64 (bits .and .i64 (m : Int) 127) 128 % 256 = ((128 + m % 128 : Nat) : Int) := by
  rw [i64_and127]
  have e : (m : Int) % 128 = ((m % 128 : Nat) : Int) := by omega
  have e2 : (128 : Int) = ((1 * 2 ^ 7 : Nat) : Int) := rfl
  have := or_add (m % 128) 1 7 (by omega)
  rw [e, e2, i64_or _ _ (by omega) (by omega), this]
  omega
theorem step_or (acc i e : Nat) (z : Int) (he : e = 7 * i) (hi : i < 6) (ha : acc < 128 ^ i) (hz : 0 ≤ z) (v : Nat) (hv : v = acc + z.toNat % 128 * 128 ^ i) : bits .or .i64 (acc : Int) (wrap64 (bits .and .i64 z 127 * 2 ^ e)) = (v : Int) := by
  subst he hv
  have hp : (128 : Nat) ^ i = 2 ^ (7 * i) := by rw [Nat.pow_mul]
  have hb : (2 : Nat) ^ (7 * i) ≤ 2 ^ 35 := Nat.pow_le_pow_right (by omega) (by omega)
  have hm : z.toNat % 128 * 2 ^ (7 * i) ≤ 127 * 2 ^ 35 := Nat.mul_le_mul (by omega) hb
  have e1 : bits .and .i64 z 127 * 2 ^ (7 * i) = ((z.toNat % 128 * 2 ^ (7 * i) : Nat) : Int) := by
    rw [i64_and127, Int.natCast_mul, Int.natCast_pow]
    congr 1
    omega
  rw [e1, IntWalk.wrap64_in _ ⟨by omega, by omega⟩]
  rw [hp] at ha ⊢
  rw [i64_or _ _ (by omega) (by omega), or_add _ _ _ ha]
end Go.Proofs.Ytchofnligbgigaa
