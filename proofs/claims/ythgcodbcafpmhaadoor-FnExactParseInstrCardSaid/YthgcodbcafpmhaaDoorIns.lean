/- Instructions: the record; ranges, registers, names, both sides; what the laws do with one record. -/
import Derived.Test.YthgcodbcafpmhaaDoorFlat
import Derived.Test.YthgcodbcafpmhaaDoorSlI
import Derived.LoopTactic
import Derived.Lib.Hide
import Derived.Deep.QuietTactic
import Derived.BigQuiet
import Derived.Deep.RegionWith
import Derived.Laws.RangeAny
import Derived.Handy
namespace Go.Proofs.YthgcodbcafpmhaaDoor
open Go.RowKit
structure I where
  op : Int
  a : Int
  b : Int
  c : Int
  d : Int
  name : ByteArray
/-- A bool comes back, nothing turned. -/
def SameB (b : Bool) (w : World) (e : Ending) (w' : World) : Prop := e = .returned (.bool b) ∧ w = w'
theorem SameB.ret {b c : Bool} {w : World} (h : b = c) : SameB c w (.returned (.bool b)) w := ⟨by rw [h], rfl⟩
theorem GivesBool.of {b c : Bool} {w w' : World} (h : b = c) (hb : Below w.heap.size w w') : GivesBool c w (.returned (.bool b)) w' := ⟨by rw [h], hb⟩
def inR (n a b : Int) : Bool := decide (a ≤ n ∧ n ≤ b)
theorem inR_t {n a b : Int} (h1 : a ≤ n) (h2 : n ≤ b) : true = inR n a b := (decide_eq_true ⟨h1, h2⟩).symm
theorem inR_f {n a b : Int} (h : ¬ (a ≤ n ∧ n ≤ b)) : false = inR n a b := (decide_eq_false h).symm
theorem implInR (n a b : Int) (w : World) : Calls Tryd.prog 50 #[.int .i64 n, .int .i64 a, .int .i64 b] w (SameB (inR n a b) w) := by
  by_cases h1 : a ≤ n
  · by_cases h2 : n ≤ b
    · have H := Lib.hid (inR_t h1 h2)
      go_enter Tryd.func50, Tryd.ntmps50
      go_wp2
      go_ret
      exact SameB.ret H.out
    · have H := Lib.hid (inR_f (n := n) (a := a) (b := b) (fun h => h2 h.2))
      go_enter Tryd.func50, Tryd.ntmps50
      go_wp2
      go_ret
      exact SameB.ret H.out
  · have H := Lib.hid (inR_f (n := n) (a := a) (b := b) (fun h => h1 h.1))
    go_enter Tryd.func50, Tryd.ntmps50
    go_wp2
    go_ret
    exact SameB.ret H.out
theorem specInR (n a b : Int) (w : World) : Calls Tryd.prog 25 #[.int .i64 n, .int .i64 a, .int .i64 b] w (SameB (inR n a b) w) := by
  by_cases h1 : a ≤ n
  · by_cases h2 : n ≤ b
    · have H := Lib.hid (inR_t h1 h2)
      go_enter Tryd.func25, Tryd.ntmps25
      go_wp2
      go_ret
      exact SameB.ret H.out
    · have H := Lib.hid (inR_f (n := n) (a := a) (b := b) (fun h => h2 h.2))
      go_enter Tryd.func25, Tryd.ntmps25
      go_wp2
      go_ret
      exact SameB.ret H.out
  · have H := Lib.hid (inR_f (n := n) (a := a) (b := b) (fun h => h1 h.1))
    go_enter Tryd.func25, Tryd.ntmps25
    go_wp2
    go_ret
    exact SameB.ret H.out
def isReg (n : Int) : Bool := inR n 0 7
theorem implIsReg (n : Int) (w : World) : Calls Tryd.prog 54 #[.int .i64 n] w (SameB (isReg n) w) := by
  go_enter Tryd.func54, Tryd.ntmps54
  go_wp2_with fail
  refine (implInR n 0 7 _).mono ?_
  rintro e w' ⟨rfl, rfl⟩
  go_wp2_with fail
  go_ret
  exact SameB.ret rfl
theorem specIsReg (n : Int) (w : World) : Calls Tryd.prog 24 #[.int .i64 n] w (SameB (isReg n) w) := by
  go_enter Tryd.func24, Tryd.ntmps24
  go_wp2_with fail
  refine (specInR n 0 7 _).mono ?_
  rintro e w' ⟨rfl, rfl⟩
  go_wp2_with fail
  go_ret
  exact SameB.ret rfl
/-! ### Names -/
def isLow (c : UInt8) : Bool := decide (97 ≤ c.toNat ∧ c.toNat ≤ 122)
def isName (s : ByteArray) : Bool := inR s.size 1 6 && s.data.toList.all isLow
theorem isName_no {s : ByteArray} {k : Nat} (hk : k < s.size) (h : ¬ (97 ≤ (s[k]'hk).toNat ∧ (s[k]'hk).toNat ≤ 122)) : false = isName s := by
  have : s.data.toList.all isLow = false := by
    rw [List.all_eq_false]
    refine ⟨s[k], ?_, by simpa [isLow] using h⟩
    show s.data[k] ∈ _
    simp
  simp [isName, this]
theorem isName_len {s : ByteArray} (h : inR s.size 1 6 = false) : false = isName s := by simp [isName, h]
theorem isName_yes {s : ByteArray} (h : ∀ k, (hk : k < s.size) → isLow (s[k]'hk) = true) : inR s.size 1 6 = isName s := by
  have : s.data.toList.all isLow = true := by
    rw [List.all_eq_true]
    intro x hx
    obtain ⟨k, hk, rfl⟩ := List.getElem_of_mem hx
    have := h k (by simpa using hk)
    rw [Array.getElem_toList]
    exact this
  simp [isName, this]
theorem low_yes {c : UInt8} (h1 : 97 ≤ c.toNat) (h2 : c.toNat ≤ 122) : isLow c = true := decide_eq_true ⟨h1, h2⟩
end Go.Proofs.YthgcodbcafpmhaaDoor
