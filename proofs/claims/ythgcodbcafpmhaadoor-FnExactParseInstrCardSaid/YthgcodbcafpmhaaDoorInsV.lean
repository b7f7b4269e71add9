/- What is asked of instructions, as plain functions. -/
import Derived.Test.YthgcodbcafpmhaaDoorIns
namespace Go.Proofs.YthgcodbcafpmhaaDoor
open Go.RowKit
def plain (c d : Int) (nm : ByteArray) : Bool := decide (c = 0 ∧ d = 0 ∧ nm.toList = [])
def two (c d : Int) : Bool := (decide (c = -1) && decide (d = -1)) || (isReg c && (decide (d = -1) || isReg d))
def regNum (a b c d lo hi : Int) (nm : ByteArray) : Bool := plain c d nm && isReg a && inR b lo hi
def oneReg (a b c d : Int) (nm : ByteArray) : Bool := plain c d nm && isReg a && decide (b = 0)
def addI (a b c d : Int) (nm : ByteArray) : Bool := isReg a && isReg b && isReg c && decide (d = 0) && decide (nm.toList = [])
def sendI (a b c d : Int) (nm : ByteArray) : Bool := isReg a && isReg b && two c d && isName nm
def newI (a b c d : Int) (nm : ByteArray) : Bool := isReg a && decide (b = 0) && two c d && isName nm
def setI (a b c d : Int) (nm : ByteArray) : Bool := plain c d nm && inR a 0 2 && isReg b
def isI (x : I) : Bool :=
  if x.op = 1 then regNum x.a x.b x.c x.d 0 999999 x.name
  else if x.op = 2 then regNum x.a x.b x.c x.d 0 1 x.name
  else if x.op = 3 then regNum x.a x.b x.c x.d 0 2 x.name
  else if x.op = 4 then oneReg x.a x.b x.c x.d x.name
  else if x.op = 5 then addI x.a x.b x.c x.d x.name
  else if x.op = 6 then sendI x.a x.b x.c x.d x.name
  else if x.op = 7 then newI x.a x.b x.c x.d x.name
  else if x.op = 8 then setI x.a x.b x.c x.d x.name
  else if x.op = 9 then regNum x.a x.b x.c x.d 1 12 x.name
  else if x.op = 10 then oneReg x.a x.b x.c x.d x.name
  else false
/-- The registers that are read. -/
def passed (c d : Int) : List Int := (if c = -1 then [] else [c]) ++ (if d = -1 then [] else [d])
def regsOf (x : I) : List Int :=
  if x.op = 5 then [x.b, x.c]
  else if x.op = 6 then x.b :: passed x.c x.d
  else if x.op = 7 then passed x.c x.d
  else if x.op = 8 then [x.b]
  else if x.op = 9 then [x.a]
  else if x.op = 10 then [x.a]
  else []
def targetOf (x : I) : Int := if 1 ≤ x.op ∧ x.op ≤ 7 then x.a else -1
def opName (op : Int) : ByteArray :=
  if op = 1 then ⟨#[99, 111, 110, 115, 116]⟩
  else if op = 2 then ⟨#[97, 114, 103]⟩
  else if op = 3 then ⟨#[115, 108, 111, 116]⟩
  else if op = 4 then ⟨#[115, 101, 108, 102]⟩
  else if op = 5 then ⟨#[97, 100, 100]⟩
  else if op = 6 then ⟨#[115, 101, 110, 100]⟩
  else if op = 7 then ⟨#[110, 101, 119]⟩
  else if op = 8 then ⟨#[115, 101, 116]⟩
  else if op = 9 then ⟨#[115, 107, 105, 112]⟩
  else if op = 10 then ⟨#[114, 101, 116, 117, 114, 110]⟩
  else ⟨#[]⟩
theorem opCases (op : Int) : op = 1 ∨ op = 2 ∨ op = 3 ∨ op = 4 ∨ op = 5 ∨ op = 6 ∨ op = 7 ∨ op = 8 ∨ op = 9 ∨ op = 10 ∨ ¬ (1 ≤ op ∧ op ≤ 10) := by omega
end Go.Proofs.YthgcodbcafpmhaaDoor
