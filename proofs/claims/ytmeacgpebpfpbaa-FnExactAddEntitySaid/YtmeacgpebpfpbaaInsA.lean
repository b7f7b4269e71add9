/- Instructions: the record; ranges, registers, names, both sides; what the laws do with one record.
   IsName, both sides.
   What is asked of instructions, as plain functions. -/
import Derived.Test.YtmeacgpebpfpbaaBase
import Derived.LoopTactic
import Derived.Lib.Hide
import Derived.Deep.QuietTactic
import Derived.BigQuiet
import Derived.Deep.RegionWith
import Derived.Laws.RangeAny
import Derived.Handy
namespace Go.Proofs.Ytmeacgpebpfpbaa
open Go.RowKit
structure I where
  op : Int
  a : Int
  b : Int
  c : Int
  d : Int
  name : ByteArray
def SameB (b : Bool) (w : World) (e : Ending) (w' : World) : Prop := e = .returned (.bool b) ∧ w = w'
theorem SameB.ret {b c : Bool} {w : World} (h : b = c) : SameB c w (.returned (.bool b)) w := ⟨by rw [h], rfl⟩
def inR (n a b : Int) : Bool := decide (a ≤ n ∧ n ≤ b)
def isReg (n : Int) : Bool := inR n 0 7
def isLow (c : UInt8) : Bool := decide (97 ≤ c.toNat ∧ c.toNat ≤ 122)
def isName (s : ByteArray) : Bool := inR s.size 1 6 && s.data.toList.all isLow
theorem isName_yes {s : ByteArray} (h : ∀ k, (hk : k < s.size) → isLow (s[k]'hk) = true) : inR s.size 1 6 = isName s := by
  have : s.data.toList.all isLow = true := by
    rw [List.all_eq_true]
    intro x hx
    obtain ⟨k, hk, rfl⟩ := List.getElem_of_mem hx
    have := h k (by simpa using hk)
    rw [Array.getElem_toList]
    exact this
  simp [isName, this]
theorem low_yes {c : UInt8} (h1 : 97 ≤ c.toNat) (h2 : c.toNat ≤ 122) : isLow c = true := decide_eq_true ⟨h1, h2⟩
end Go.Proofs.Ytmeacgpebpfpbaa
namespace Go.Proofs.Ytmeacgpebpfpbaa
open Go.RowKit
def Low (s : ByteArray) (k : Nat) : Prop := ∀ j, (hj : j < s.size) → j < k → isLow (s[j]'hj) = true
theorem Low.next {s : ByteArray} {k : Nat} (h : Low s k) (hk : k < s.size) (h1 : 97 ≤ (s[k]'hk).toNat) (h2 : (s[k]'hk).toNat ≤ 122) : Low s (k + 1) := fun j hj hjk => by
  by_cases e : j = k
  · subst e
    exact low_yes h1 h2
  · exact h j hj (by omega)
theorem Low.done {s : ByteArray} {k : Nat} (h : Low s k) (hk : s.size ≤ k) : inR s.size 1 6 = isName s := isName_yes fun j hj => h j hj (by omega)
end Go.Proofs.Ytmeacgpebpfpbaa
namespace Go.Proofs.Ytmeacgpebpfpbaa
open Go.RowKit
def plain (c d : Int) (nm : ByteArray) : Bool := decide (c = 0 ∧ d = 0 ∧ nm.toList = [])
def two (c d : Int) : Bool := (decide (c = -1) && decide (d = -1)) || (isReg c && (decide (d = -1) || isReg d))
def regNum (a b c d lo hi : Int) (nm : ByteArray) : Bool := plain c d nm && isReg a && inR b lo hi
def oneReg (a b c d : Int) (nm : ByteArray) : Bool := plain c d nm && isReg a && decide (b = 0)
def addI (a b c d : Int) (nm : ByteArray) : Bool := isReg a && isReg b && isReg c && decide (d = 0) && decide (nm.toList = [])
def sendI (a b c d : Int) (nm : ByteArray) : Bool := isReg a && isReg b && two c d && isName nm
def newI (a b c d : Int) (nm : ByteArray) : Bool := isReg a && decide (b = 0) && two c d && isName nm
def setI (a b c d : Int) (nm : ByteArray) : Bool := plain c d nm && inR a 0 2 && isReg b
def isI (x : I) : Bool :=
  if x.op = 1 then regNum x.a x.b x.c x.d 0 999999 x.name
  else if x.op = 2 then regNum x.a x.b x.c x.d 0 1 x.name
  else if x.op = 3 then regNum x.a x.b x.c x.d 0 2 x.name
  else if x.op = 4 then oneReg x.a x.b x.c x.d x.name
  else if x.op = 5 then addI x.a x.b x.c x.d x.name
  else if x.op = 6 then sendI x.a x.b x.c x.d x.name
  else if x.op = 7 then newI x.a x.b x.c x.d x.name
  else if x.op = 8 then setI x.a x.b x.c x.d x.name
  else if x.op = 9 then regNum x.a x.b x.c x.d 1 12 x.name
  else if x.op = 10 then oneReg x.a x.b x.c x.d x.name
  else false
def passed (c d : Int) : List Int := (if c = -1 then [] else [c]) ++ (if d = -1 then [] else [d])
def regsOf (x : I) : List Int :=
  if x.op = 5 then [x.b, x.c]
  else if x.op = 6 then x.b :: passed x.c x.d
  else if x.op = 7 then passed x.c x.d
  else if x.op = 8 then [x.b]
  else if x.op = 9 then [x.a]
  else if x.op = 10 then [x.a]
  else []
def targetOf (x : I) : Int := if 1 ≤ x.op ∧ x.op ≤ 7 then x.a else -1
def opName (op : Int) : ByteArray :=
  if op = 1 then ⟨#[99, 111, 110, 115, 116]⟩
  else if op = 2 then ⟨#[97, 114, 103]⟩
  else if op = 3 then ⟨#[115, 108, 111, 116]⟩
  else if op = 4 then ⟨#[115, 101, 108, 102]⟩
  else if op = 5 then ⟨#[97, 100, 100]⟩
  else if op = 6 then ⟨#[115, 101, 110, 100]⟩
  else if op = 7 then ⟨#[110, 101, 119]⟩
  else if op = 8 then ⟨#[115, 101, 116]⟩
  else if op = 9 then ⟨#[115, 107, 105, 112]⟩
  else if op = 10 then ⟨#[114, 101, 116, 117, 114, 110]⟩
  else ⟨#[]⟩
end Go.Proofs.Ytmeacgpebpfpbaa
