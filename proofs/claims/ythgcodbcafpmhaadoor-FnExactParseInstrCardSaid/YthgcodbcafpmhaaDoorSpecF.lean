/- spec.FormatInt returns the decimal numeral of its argument. -/
import Derived.Test.YthgcodbcafpmhaaDoorProg
import Derived.WalkKit
import Derived.LoopTactic
import Derived.Outline
import Derived.Laws.IdiomStrings
import Derived.Laws.Concat
import Derived.Lib.ItoaLen
import Derived.Lib.Hide
import Derived.Below
namespace Go.Proofs.YthgcodbcafpmhaaDoor
open Go.RowKit Go.Lib
/-- The byte of a digit. -/
def dgt (u : Nat) : UInt8 := UInt8.ofNat (48 + u)
def rest (u : Nat) (t : List UInt8) : List UInt8 := if u = 0 then t else decDigits u ++ t
theorem rest_zero (t : List UInt8) : rest 0 t = t := rfl
theorem rest_step (u : Nat) (t : List UInt8) (h : u ≠ 0) : rest (u / 10) (dgt (u % 10) :: t) = rest u t := by
  unfold rest dgt
  rw [if_neg h]
  by_cases h1 : u < 10
  · rw [if_pos (by omega), decDigits_one h1]
    have : u % 10 = u := by omega
    rw [this]; rfl
  · rw [if_neg (by omega)]
    conv => rhs; rw [decDigits, dif_neg h1]
    simp
theorem ret_str {a b : ByteArray} (h : a = b) : Ending.returned (.string a) = .returned (.string b) := by rw [h]
theorem itoa_zero : itoa 0 = [48] := by unfold itoa; rw [if_neg (by omega)]; exact decDigits_one (by omega)
set_option maxRecDepth 100000 in
set_option maxHeartbeats 400000 in
theorem specFormatInt_zero (w : World) : Calls Tryd.prog 14 #[.int .i64 0] w fun e w' => e = .returned (.string ⟨(itoa 0).toArray⟩) ∧ Below w.heap.size w w' := by
  go_enter Tryd.func14, Tryd.ntmps14
  go_wp2
  go_ret
  exact ⟨ret_str (by rw [itoa_zero]), Below.refl _ _⟩
theorem byte_one (u : Nat) (h : u < 10) : ((dgt u).toNat : Int) = 48 + (u : Int) := by
  unfold dgt
  have e : (UInt8.ofNat (48 + u)).toNat = 48 + u := by simp; omega
  rw [e]; omega
/-- 'string([]byte{c})', c a digit, in the world behind the block's laying. -/
theorem string_digit (w : World) (u : Nat) (h : u < 10) (c : Int) (hc : c = 48 + (u : Int)) :
    (convert 44 9 (.slice (some ⟨w.heap.size, 0, none⟩) 1 1)).run Tryd.prog (w.alloc (.cells #[.int .u8 c] 5)) = .ok (.string ⟨#[dgt u]⟩) (w.alloc (.cells #[.int .u8 c] 5)) := by
  have k := run_convert_bytes_back (P := Tryd.prog) (w.alloc (.cells #[.int .u8 c] 5)) 44 9 5 ⟨w.heap.size, 0, none⟩ 1 [dgt u] Tryd.underlying44 Tryd.underlying5 Tryd.underlying9 (fun j hj => by
    obtain rfl : j = 0 := by simpa using hj
    have e := byte_one u h
    simp only [List.getElem_cons_zero, e, ← hc]
    simp [go_sem, Addr.add])
  simpa using k
theorem cons_str (c : UInt8) (t : List UInt8) : (ByteArray.mk #[c] ++ ByteArray.mk t.toArray) = ByteArray.mk (c :: t).toArray := by
  apply ByteArray.ext
  simp [ByteArray.data_append]
theorem val_str {a b : ByteArray} (h : a = b) : Value.string a = .string b := by rw [h]
theorem rest_len {u m : Nat} {t : List UInt8} (h : rest u t = decDigits m) (hm : m < 18446744073709551616) : t.length ≤ 20 := by
  have e := congrArg List.length h
  rw [decDigits_length] at e
  have b := nDigits_le20 m hm
  unfold rest at e
  split at e
  · omega
  · simp at e; omega
set_option maxRecDepth 100000 in
set_option maxHeartbeats 400000 in
theorem specFormatInt_pos (n : Int) (w : World) (h0 : 0 < n) (h1 : n ≤ 9223372036854775807) : Calls Tryd.prog 14 #[.int .i64 n] w fun e w' => e = .returned (.string ⟨(itoa n).toArray⟩) ∧ Below w.heap.size w w' := by
  have hne : ((n : Int) == 0) = false := by simpa using (by omega : n ≠ 0)
  go_enter Tryd.func14, Tryd.ntmps14
  go_wp2
  go_loopw [3, 4] (fun s x wr => ∃ (u : Nat) (t : List UInt8), s = .string ⟨t.toArray⟩ ∧ x = .int .i64 u ∧ (u : Int) ≤ n ∧ rest u t = decDigits n.toNat ∧ Below w.heap.size w wr) (fun _ x _ => (intOf x).toNat)
  case atStart => exact ⟨n.toNat, [], rfl, by rw [Int.toNat_of_nonneg (by omega)], by omega, by unfold rest; rw [if_neg (by omega)]; simp, Below.refl _ _⟩
  case round =>
    obtain ⟨u, t, rfl, rfl, hu, hr, hb⟩ := hrel
    by_cases hz : u = 0
    · subst hz
      rw [rest_zero] at hr
      have HR := Lib.hid hr; clear hr
      go_wp2
      go_ret
      exact ⟨ret_str (by rw [HR.out]; unfold itoa; rw [if_neg (by omega)]), hb⟩
    · have hl := rest_len hr (by omega)
      have hs := rest_step u t hz
      have HR := Lib.hid (hs.trans hr); clear hr hs
      have hcv := string_digit wr (u % 10) (by omega) (48 + (u : Int) % 10) (by omega)
      go_wp2
      go_roundw
      case rel => exact ⟨u / 10, _, val_str (cons_str _ _), by go_num, by omega, HR.out, hb.alloc (by have := hb.size; omega) _⟩
      case measure => simp [intOf]; omega
theorem tmod_neg (y : Int) (h : y ≤ 0) : y.tmod 10 = -((y.natAbs % 10 : Nat) : Int) := by
  obtain ⟨u, rfl⟩ : ∃ u : Nat, y = -(u : Int) := ⟨y.natAbs, by omega⟩
  rw [Int.neg_tmod]
  have : ((u : Int)).tmod 10 = ((u % 10 : Nat) : Int) := by rw [Int.tmod_eq_emod_of_nonneg (by omega)]; omega
  rw [this]; simp
theorem tdiv_neg (y : Int) (h : y ≤ 0) : (y.tdiv 10).natAbs = y.natAbs / 10 ∧ y.tdiv 10 = -((y.natAbs / 10 : Nat) : Int) := by
  obtain ⟨u, rfl⟩ : ∃ u : Nat, y = -(u : Int) := ⟨y.natAbs, by omega⟩
  rw [Int.neg_tdiv]
  have : ((u : Int)).tdiv 10 = ((u / 10 : Nat) : Int) := by rw [Int.tdiv_eq_ediv_of_nonneg (by omega)]; omega
  rw [this]; omega
set_option maxRecDepth 100000 in
set_option maxHeartbeats 400000 in
theorem specFormatInt_neg (n : Int) (w : World) (h0 : n < 0) (h1 : -9223372036854775808 ≤ n) : Calls Tryd.prog 14 #[.int .i64 n] w fun e w' => e = .returned (.string ⟨(itoa n).toArray⟩) ∧ Below w.heap.size w w' := by
  have hne : ((n : Int) == 0) = false := by simpa using (by omega : n ≠ 0)
  go_enter Tryd.func14, Tryd.ntmps14
  go_wp2
  go_loopw [3, 4] (fun s x wr => ∃ (y : Int) (t : List UInt8), s = .string ⟨t.toArray⟩ ∧ x = .int .i64 y ∧ y ≤ 0 ∧ n ≤ y ∧ rest y.natAbs t = decDigits n.natAbs ∧ Below w.heap.size w wr) (fun _ x _ => (intOf x).natAbs)
  case atStart => exact ⟨n, [], rfl, rfl, by omega, by omega, by unfold rest; rw [if_neg (by omega)]; simp, Below.refl _ _⟩
  case round =>
    obtain ⟨y, t, rfl, rfl, hy, hyn, hr, hb⟩ := hrel
    by_cases hz : y = 0
    · subst hz
      rw [Int.natAbs_zero, rest_zero] at hr
      have hl : t.length ≤ 20 := rest_len (u := 0) hr (by omega)
      have HR := Lib.hid hr; clear hr
      go_wp2
      go_ret
      exact ⟨ret_str (by rw [cons_str, HR.out]; unfold itoa; rw [if_pos (by omega)]), hb⟩
    · have hl := rest_len hr (by omega)
      have hs := rest_step y.natAbs t (by omega)
      have HR := Lib.hid (hs.trans hr); clear hr hs
      have e10 := tmod_neg y hy
      have e11 := tdiv_neg y hy
      have hb1 : 0 ≤ y.natAbs % 10 ∧ y.natAbs % 10 < 10 := by omega
      have hm1 : -10 < y.tmod 10 := by omega
      have hm2 : y.tmod 10 ≤ 0 := by omega
      have hq1 : y < y.tdiv 10 := by omega
      have hq2 : y.tdiv 10 ≤ 0 := by omega
      by_cases hd : y.tmod 10 < 0
      · have hcv := string_digit wr (y.natAbs % 10) (by omega) (48 + -(y.tmod 10)) (by omega)
        have E10 := Lib.hid e10; clear e10
        have E11 := Lib.hid e11; clear e11
        go_wp2
        go_roundw
        case rel => exact ⟨y.tdiv 10, _, val_str (cons_str _ _), rfl, hq2, by omega, by rw [E11.out.1]; exact HR.out, hb.alloc (by have := hb.size; omega) _⟩
        case measure => show (y.tdiv 10).natAbs < y.natAbs; omega
      · have hcv := string_digit wr (y.natAbs % 10) (by omega) (48 + (y.tmod 10)) (by omega)
        have E10 := Lib.hid e10; clear e10
        have E11 := Lib.hid e11; clear e11
        go_wp2
        go_roundw
        case rel => exact ⟨y.tdiv 10, _, val_str (cons_str _ _), rfl, hq2, by omega, by rw [E11.out.1]; exact HR.out, hb.alloc (by have := hb.size; omega) _⟩
        case measure => show (y.tdiv 10).natAbs < y.natAbs; omega
end Go.Proofs.YthgcodbcafpmhaaDoor
