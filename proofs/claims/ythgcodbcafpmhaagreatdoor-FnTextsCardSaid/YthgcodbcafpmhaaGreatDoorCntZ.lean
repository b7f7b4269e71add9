/- CountLines, both sides, over the library's contract on strings.Count. -/
import Derived.Test.YthgcodbcafpmhaaGreatDoorShelfJ
import Derived.Test.YthgcodbcafpmhaaGreatDoorBase
import Derived.Laws.IdiomStrings
import Derived.LoopTactic
import Derived.Lib.Hide
import Derived.Handy
namespace Go.Proofs.YthgcodbcafpmhaaGreatDoor
open Go.RowKit
set_option linter.unusedVariables false
set_option linter.unusedSimpArgs false
/-- How many newlines. -/
def lns (l : List UInt8) : Nat := Lib.countByte l 10
theorem lns_le (l : List UInt8) : lns l ≤ l.length := List.count_le_length
theorem lns_next {l : List UInt8} {i : Nat} {c : UInt8} (h : l[i]? = some c) : lns (l.take (i + 1)) = lns (l.take i) + if c = 10 then 1 else 0 := by
  rw [List.take_add_one, h]
  show List.count 10 (l.take i ++ [c]) = _
  rw [List.count_append]
  by_cases hc : c = 10
  · subst hc; rw [if_pos rfl]; rfl
  · rw [if_neg hc, List.count_singleton]
    have : (c == 10) = false := by simpa using hc
    rw [this]; rfl
theorem at_byteC (s : ByteArray) {i : Nat} (h : i < s.size) : s.data.toList[i]? = some (s[i]'h) := by
  rw [List.getElem?_eq_getElem (by exact h)]
  rfl
/-- A number comes back, and nothing turns. -/
def SameN (n : Int) (w : World) (e : Ending) (w' : World) : Prop := e = .returned (.int .i64 n) ∧ w = w'
theorem SameN.ret {n m : Int} {w : World} (h : n = m) : SameN m w (.returned (.int .i64 n)) w := ⟨by rw [h], rfl⟩
set_option maxHeartbeats 2000000 in
theorem specLines (s : ByteArray) (w : World) (hs : s.size ≤ 1099511627776) : Calls Tryz.prog 19 #[.string s] w (SameN (lns s.data.toList) w) := by
  go_enter Tryz.func19, Tryz.ntmps19
  go_wp2
  go_loop [3, 4] (fun nv iv => ∃ i : Nat, i ≤ s.size ∧ iv = .int .i64 i ∧ nv = .int .i64 (lns (s.data.toList.take i))) (fun _ iv => s.size - (RowKit.intOf iv).toNat)
  case atStart => exact ⟨0, Nat.zero_le _, rfl, rfl⟩
  case round =>
    obtain ⟨i, hi, rfl, rfl⟩ := hrel
    have hle : lns (s.data.toList.take i) ≤ 1099511627776 := by
      have h1 := lns_le (s.data.toList.take i)
      rw [List.length_take] at h1
      omega
    by_cases hlt : i < s.size
    · by_cases hc : s[i] = 10
      · have HN : Hid (lns (s.data.toList.take (i + 1)) = lns (s.data.toList.take i) + 1) := Lib.hid (by rw [lns_next (at_byteC s hlt), if_pos hc])
        have hb : (((s[i]'hlt).toNat : Int) == 10) = true := by rw [hc]; rfl
        clear hc
        go_wp2
        go_round
        case rel => exact ⟨i + 1, by omega, by go_num, by rw [HN.out]; go_num⟩
        case measure => simp [RowKit.intOf]; omega
      · have HN : Hid (lns (s.data.toList.take (i + 1)) = lns (s.data.toList.take i)) := Lib.hid (by rw [lns_next (at_byteC s hlt), if_neg hc, Nat.add_zero])
        have hb : (((s[i]'hlt).toNat : Int) == 10) = false := by
          simp only [beq_eq_false_iff_ne, ne_eq]
          intro e
          exact hc (UInt8.toNat_inj.1 (by show s[i].toNat = 10; omega))
        clear hc
        go_wp2
        go_round
        case rel => exact ⟨i + 1, by omega, by go_num, by rw [HN.out]⟩
        case measure => simp [RowKit.intOf]; omega
    · have HN : Hid (s.data.toList.take i = s.data.toList) := Lib.hid (List.take_of_length_le (by show s.size ≤ i; omega))
      go_wp2
      go_ret
      exact SameN.ret (by rw [HN.out])
theorem implLines (s : ByteArray) (w : World) : Calls Tryz.prog 18 #[.string s] w (SameN (lns s.data.toList) w) := by
  go_enter Tryz.func18, Tryz.ntmps18
  go_wp2_with (go_at_call 54; (with_reducible refine (Tryz.strings_Count_one s 10 _).mono ?_); rintro e w' ⟨rfl, rfl⟩)
  go_ret
  exact SameN.ret rfl
end Go.Proofs.YthgcodbcafpmhaaGreatDoor
