/- Chapter 11, plain: data that are alike; the first element that ..; valid wires and messages. -/
import Derived.Test.YtmeacgpebpfpbaaCom
import Derived.Test.YtmeacgpebpfpbaaTyM1
import Derived.Test.YtmeacgpebpfpbaaInsA
import Derived.LoopTactic
import Derived.Lib.Hide
import Derived.Deep.QuietTactic
import Derived.BigQuiet
import Derived.Deep.RegionWith
import Derived.Handy
namespace Go.Proofs.Ytmeacgpebpfpbaa
open Go.RowKit
set_option linter.unusedVariables false
set_option linter.unusedSimpArgs false
/-! ### Wires and messages that are valid -/
def numB (n : Int) : Bool := inR n 0 999999
def oneB (n : Int) : Bool := inR n 1 999999
def wireB (k n : Int) : Bool := if k = 0 then numB n else if k = 1 ∨ k = 2 then oneB n else decide (k = 3) && decide (n = 0)
def wireD (d : Dat) : Bool := wireB (fld 0 d) (fld 1 d)
def oneTo (p a : Int) : Bool := if p = 0 then oneB a else oneB p && decide (a = 0)
def zz (a b : Int) : Bool := decide (a = 0) && decide (b = 0)
def zzz (a b c : Int) : Bool := decide (a = 0) && decide (b = 0) && decide (c = 0)
def tagB (a b c : Int) : Bool := oneB a && numB b && oneB c
def argsB (L : List Dat) : Bool := decide (L.length ≤ 2) && L.all wireD
def calmB (f2 : Int) (f4 : ByteArray) (L5 : List Dat) (f8_0 f8_1 f8_2 : Int) : Bool := decide (f2 = 0) && decide (f4.size = 0) && decide (L5.length = 0) && zzz f8_0 f8_1 f8_2
/-- A message is valid. -/
def msgB (f0 f1 f2 f3 : Int) (f4 : ByteArray) (L5 : List Dat) (f6_0 f6_1 f7 f8_0 f8_1 f8_2 : Int) : Bool :=
  if f0 = 1 then zz f6_0 f6_1 && decide (f7 = 0) && oneTo f1 f2 && oneB f3 && isName f4 && argsB L5 && tagB f8_0 f8_1 f8_2
  else if f0 = 2 then calmB f2 f4 L5 f8_0 f8_1 f8_2 && decide (f1 = 0) && decide (f7 = 0) && oneB f3 && wireB f6_0 f6_1
  else if f0 = 3 ∨ f0 = 4 ∨ f0 = 5 then calmB f2 f4 L5 f8_0 f8_1 f8_2 && decide (f1 = 0) && decide (f7 = 0) && zz f6_0 f6_1 && oneB f3
  else if f0 = 6 then calmB f2 f4 L5 f8_0 f8_1 f8_2 && decide (f3 = 0) && zz f6_0 f6_1 && oneB f1 && oneB f7
  else false
theorem size0 {s : ByteArray} : s.size = 0 ↔ s = ⟨#[]⟩ := by
  constructor
  · intro h
    obtain ⟨⟨l⟩⟩ := s
    have h' : l.length = 0 := h
    rw [List.length_eq_zero_iff.1 h']
  · rintro rfl; rfl
theorem eqCall (f0 f1 f2 f3 : Int) (f4 : ByteArray) (L5 : List Dat) (f6_0 f6_1 f7 f8_0 f8_1 f8_2 : Int) : eq1 (.r [.i f0, .i f1, .i f2, .i f3, .s f4, .l L5, .r [.i f6_0, .i f6_1], .i f7, .r [.i f8_0, .i f8_1, .i f8_2]]) (.r [.i f0, .i f1, .i f2, .i f3, .s f4, .l L5, .r [.i 0, .i 0], .i 0, .r [.i f8_0, .i f8_1, .i f8_2]]) = (zz f6_0 f6_1 && decide (f7 = 0)) := by
  rw [Bool.eq_iff_iff, eq1_iff]
  simp [calmB, zz, zzz, size0, List.length_eq_zero_iff]
  try (constructor <;> rintro ⟨⟩ <;> simp_all <;> rfl)
theorem eqRet (f0 f1 f2 f3 : Int) (f4 : ByteArray) (L5 : List Dat) (f6_0 f6_1 f7 f8_0 f8_1 f8_2 : Int) : eq1 (.r [.i f0, .i f1, .i f2, .i f3, .s f4, .l L5, .r [.i f6_0, .i f6_1], .i f7, .r [.i f8_0, .i f8_1, .i f8_2]]) (.r [.i f0, .i 0, .i 0, .i f3, .s ⟨#[]⟩, .l [], .r [.i f6_0, .i f6_1], .i 0, .r [.i 0, .i 0, .i 0]]) = (calmB f2 f4 L5 f8_0 f8_1 f8_2 && decide (f1 = 0) && decide (f7 = 0)) := by
  rw [Bool.eq_iff_iff, eq1_iff]
  simp [calmB, zz, zzz, size0, List.length_eq_zero_iff]
  try (constructor <;> rintro ⟨⟩ <;> simp_all <;> rfl)
theorem eqQu (f0 f1 f2 f3 : Int) (f4 : ByteArray) (L5 : List Dat) (f6_0 f6_1 f7 f8_0 f8_1 f8_2 : Int) : eq1 (.r [.i f0, .i f1, .i f2, .i f3, .s f4, .l L5, .r [.i f6_0, .i f6_1], .i f7, .r [.i f8_0, .i f8_1, .i f8_2]]) (.r [.i f0, .i 0, .i 0, .i f3, .s ⟨#[]⟩, .l [], .r [.i 0, .i 0], .i 0, .r [.i 0, .i 0, .i 0]]) = (calmB f2 f4 L5 f8_0 f8_1 f8_2 && decide (f1 = 0) && decide (f7 = 0) && zz f6_0 f6_1) := by
  rw [Bool.eq_iff_iff, eq1_iff]
  simp [calmB, zz, zzz, size0, List.length_eq_zero_iff]
  try (constructor <;> rintro ⟨⟩ <;> simp_all <;> rfl)
theorem eqRel (f0 f1 f2 f3 : Int) (f4 : ByteArray) (L5 : List Dat) (f6_0 f6_1 f7 f8_0 f8_1 f8_2 : Int) : eq1 (.r [.i f0, .i f1, .i f2, .i f3, .s f4, .l L5, .r [.i f6_0, .i f6_1], .i f7, .r [.i f8_0, .i f8_1, .i f8_2]]) (.r [.i f0, .i f1, .i 0, .i 0, .s ⟨#[]⟩, .l [], .r [.i 0, .i 0], .i f7, .r [.i 0, .i 0, .i 0]]) = (calmB f2 f4 L5 f8_0 f8_1 f8_2 && decide (f3 = 0) && zz f6_0 f6_1) := by
  rw [Bool.eq_iff_iff, eq1_iff]
  simp [calmB, zz, zzz, size0, List.length_eq_zero_iff]
  try (constructor <;> rintro ⟨⟩ <;> simp_all <;> rfl)
end Go.Proofs.Ytmeacgpebpfpbaa
