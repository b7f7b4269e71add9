/- Instructions: the record; ranges, registers, names, both sides; what the laws do with one record.
   IsName, both sides.
   What is asked of instructions, as plain functions. -/
import Derived.Test.YtchofnligbgigaaBase
import Derived.LoopTactic
import Derived.Lib.Hide
import Derived.Deep.QuietTactic
import Derived.BigQuiet
import Derived.Deep.RegionWith
import Derived.Laws.RangeAny
import Derived.Handy
namespace Go.Proofs.Ytchofnligbgigaa
open Go.RowKit
structure I where
  op : Int
  a : Int
  b : Int
  c : Int
  d : Int
  name : ByteArray
/-- A bool comes back, nothing turned. -/
def SameB (b : Bool) (w : World) (e : Ending) (w' : World) : Prop := e = .returned (.bool b) ∧ w = w'
theorem SameB.ret {b c : Bool} {w : World} (h : b = c) : SameB c w (.returned (.bool b)) w := ⟨by rw [h], rfl⟩
theorem GivesBool.of {b c : Bool} {w w' : World} (h : b = c) (hb : Below w.heap.size w w') : GivesBool c w (.returned (.bool b)) w' := ⟨by rw [h], hb⟩
def inR (n a b : Int) : Bool := decide (a ≤ n ∧ n ≤ b)
theorem inR_t {n a b : Int} (h1 : a ≤ n) (h2 : n ≤ b) : true = inR n a b := (decide_eq_true ⟨h1, h2⟩).symm
theorem inR_f {n a b : Int} (h : ¬ (a ≤ n ∧ n ≤ b)) : false = inR n a b := (decide_eq_false h).symm
theorem implInR (n a b : Int) (w : World) : Calls Try.prog 54 #[.int .i64 n, .int .i64 a, .int .i64 b] w (SameB (inR n a b) w) := by
  by_cases h1 : a ≤ n
  · by_cases h2 : n ≤ b
    · have H := Lib.hid (inR_t h1 h2)
      go_enter Try.func54, Try.ntmps54
      go_wp2
      go_ret
      exact SameB.ret H.out
    · have H := Lib.hid (inR_f (n := n) (a := a) (b := b) (fun h => h2 h.2))
      go_enter Try.func54, Try.ntmps54
      go_wp2
      go_ret
      exact SameB.ret H.out
  · have H := Lib.hid (inR_f (n := n) (a := a) (b := b) (fun h => h1 h.1))
    go_enter Try.func54, Try.ntmps54
    go_wp2
    go_ret
    exact SameB.ret H.out
theorem specInR (n a b : Int) (w : World) : Calls Try.prog 46 #[.int .i64 n, .int .i64 a, .int .i64 b] w (SameB (inR n a b) w) := by
  by_cases h1 : a ≤ n
  · by_cases h2 : n ≤ b
    · have H := Lib.hid (inR_t h1 h2)
      go_enter Try.func46, Try.ntmps46
      go_wp2
      go_ret
      exact SameB.ret H.out
    · have H := Lib.hid (inR_f (n := n) (a := a) (b := b) (fun h => h2 h.2))
      go_enter Try.func46, Try.ntmps46
      go_wp2
      go_ret
      exact SameB.ret H.out
  · have H := Lib.hid (inR_f (n := n) (a := a) (b := b) (fun h => h1 h.1))
    go_enter Try.func46, Try.ntmps46
    go_wp2
    go_ret
    exact SameB.ret H.out
def isReg (n : Int) : Bool := inR n 0 7
/-! ### Names -/
def isLow (c : UInt8) : Bool := decide (97 ≤ c.toNat ∧ c.toNat ≤ 122)
def isName (s : ByteArray) : Bool := inR s.size 1 6 && s.data.toList.all isLow
theorem isName_no {s : ByteArray} {k : Nat} (hk : k < s.size) (h : ¬ (97 ≤ (s[k]'hk).toNat ∧ (s[k]'hk).toNat ≤ 122)) : false = isName s := by
  have : s.data.toList.all isLow = false := by
    rw [List.all_eq_false]
    refine ⟨s[k], ?_, by simpa [isLow] using h⟩
    show s.data[k] ∈ _
    simp
  simp [isName, this]
theorem isName_len {s : ByteArray} (h : inR s.size 1 6 = false) : false = isName s := by simp [isName, h]
theorem isName_yes {s : ByteArray} (h : ∀ k, (hk : k < s.size) → isLow (s[k]'hk) = true) : inR s.size 1 6 = isName s := by
  have : s.data.toList.all isLow = true := by
    rw [List.all_eq_true]
    intro x hx
    obtain ⟨k, hk, rfl⟩ := List.getElem_of_mem hx
    have := h k (by simpa using hk)
    rw [Array.getElem_toList]
    exact this
  simp [isName, this]
theorem low_yes {c : UInt8} (h1 : 97 ≤ c.toNat) (h2 : c.toNat ≤ 122) : isLow c = true := decide_eq_true ⟨h1, h2⟩
end Go.Proofs.Ytchofnligbgigaa
namespace Go.Proofs.Ytchofnligbgigaa
open Go.RowKit
def Low (s : ByteArray) (k : Nat) : Prop := ∀ j, (hj : j < s.size) → j < k → isLow (s[j]'hj) = true
theorem Low.next {s : ByteArray} {k : Nat} (h : Low s k) (hk : k < s.size) (h1 : 97 ≤ (s[k]'hk).toNat) (h2 : (s[k]'hk).toNat ≤ 122) : Low s (k + 1) := fun j hj hjk => by
  by_cases e : j = k
  · subst e
    exact low_yes h1 h2
  · exact h j hj (by omega)
theorem Low.done {s : ByteArray} {k : Nat} (h : Low s k) (hk : s.size ≤ k) : inR s.size 1 6 = isName s := isName_yes fun j hj => h j hj (by omega)
set_option maxHeartbeats 1000000 in
theorem specName (s : ByteArray) (w : World) (hs : s.size ≤ 140737488351232) : Calls Try.prog 45 #[.string s] w (SameB (isName s) w) := by
  go_enter Try.func45, Try.ntmps45
  go_wp2
  go_loop [3] (fun i => ∃ k : Nat, k ≤ s.size ∧ i = .int .i64 k ∧ Low s k) (fun i => s.size - (intOf i).toNat)
  case atStart => exact ⟨0, Nat.zero_le _, rfl, fun j hj h => by omega⟩
  case round =>
    obtain ⟨k, hk, rfl, hl⟩ := hrel
    have HL := Lib.hid hl
    clear hl
    by_cases hlt : k < s.size
    · by_cases h1 : 97 ≤ (s[k]'hlt).toNat
      · by_cases h2 : (s[k]'hlt).toNat ≤ 122
        · have HN := Lib.hid (HL.out.next hlt h1 h2)
          go_wp2
          go_round
          case rel => exact ⟨k + 1, by omega, by go_num, HN.out⟩
          case measure => simp [intOf]; omega
        · have HN := Lib.hid (isName_no hlt (fun h => h2 h.2))
          go_wp2
          go_ret
          exact SameB.ret HN.out
      · have HN := Lib.hid (isName_no hlt (fun h => h1 h.1))
        go_wp2
        go_ret
        exact SameB.ret HN.out
    · have HN := Lib.hid (HL.out.done (by omega))
      go_wp2_with fail
      refine (specInR s.size 1 6 _).mono ?_
      rintro e w' ⟨rfl, rfl⟩
      go_wp2_with fail
      go_ret
      exact SameB.ret HN.out
theorem GivesBool.iter {b c : Bool} {w : World} {s : ByteArray} {pos : Nat} (h : b = c) : GivesBool c w (.returned (.bool b)) (w.iter s pos) := GivesBool.of h ((Below.refl _ _).alloc (Nat.le_refl _) _)
theorem dec_ascii {s : ByteArray} {pos : Nat} (h : pos < s.size) (ha : (s[pos]'h).toNat < 128) : (Utf8.decode s pos).1 = (s[pos]'h).toNat ∧ (Utf8.decode s pos).2 = 1 := by
  rw [decode_ascii s pos h ha]
  exact ⟨rfl, rfl⟩
set_option maxHeartbeats 1000000 in
theorem implName (s : ByteArray) (w : World) : Calls Try.prog 79 #[.string s] w (GivesBool (isName s) w) := by
  by_cases hr : inR s.size 1 6 = true
  · go_enter Try.func79, Try.ntmps79
    go_wp2_with fail
    refine (implInR s.size 1 6 _).mono ?_
    rintro e w' ⟨rfl, rfl⟩
    have HR := Lib.hid hr
    go_wp2_with fail
    clear hr
    go_loopw [] (fun w' => ∃ pos : Nat, w' = w.iter s pos ∧ pos ≤ s.size ∧ Low s pos) (fun w' => s.size - w'.iterPos w.heap.size)
    case atStart => exact ⟨0, rfl, Nat.zero_le _, fun j hj h => by omega⟩
    case round =>
      obtain ⟨pos, rfl, hk, hl⟩ := hrel
      have HL := Lib.hid hl
      clear hl
      by_cases hlt : pos < s.size
      · have hnx : ∀ ty, (Instr.next (.pointer (some ⟨w.heap.size, 0, none⟩)) true ty).run Try.prog (w.iter s pos) = _ := fun ty => run_next_any w s pos ty hlt
        by_cases ha : (s[pos]'hlt).toNat < 128
        · obtain ⟨e1, e2⟩ := dec_ascii hlt ha
          rw [e1, e2] at hnx
          clear e1 e2
          by_cases h1 : 97 ≤ (s[pos]'hlt).toNat
          · by_cases h2 : (s[pos]'hlt).toNat ≤ 122
            · have HN := Lib.hid (HL.out.next hlt h1 h2)
              go_wp2
              go_roundw
              case rel => exact ⟨pos + 1, rfl, by omega, HN.out⟩
              case measure => simp; omega
            · have HN := Lib.hid (isName_no hlt (fun h => h2 h.2))
              go_wp2
              go_ret
              exact GivesBool.iter HN.out
          · have HN := Lib.hid (isName_no hlt (fun h => h1 h.1))
            go_wp2
            go_ret
            exact GivesBool.iter HN.out
        · have HN := Lib.hid (isName_no hlt (fun h => ha (by omega)))
          have hd := (decode_high s pos hlt (by omega)).1
          generalize (Utf8.decode s pos).1 = r at *
          generalize (Utf8.decode s pos).2 = wd at *
          go_wp2
          go_ret
          exact GivesBool.iter HN.out
      · have HN := Lib.hid (HL.out.done (by omega))
        have hnx : ∀ ty, (Instr.next (.pointer (some ⟨w.heap.size, 0, none⟩)) true ty).run Try.prog (w.iter s pos) = _ := fun ty => run_next_end w s pos ty hlt
        go_wp2
        go_ret
        exact GivesBool.iter (HR.out.symm.trans HN.out)
  · have hr' : inR s.size 1 6 = false := by simpa using hr
    have HN := Lib.hid (isName_len hr')
    clear hr
    go_enter Try.func79, Try.ntmps79
    go_wp2_with fail
    refine (implInR s.size 1 6 _).mono ?_
    rintro e w' ⟨rfl, rfl⟩
    go_wp2_with fail
    go_ret
    exact GivesBool.of HN.out (Below.refl _ _)
end Go.Proofs.Ytchofnligbgigaa
namespace Go.Proofs.Ytchofnligbgigaa
open Go.RowKit
def plain (c d : Int) (nm : ByteArray) : Bool := decide (c = 0 ∧ d = 0 ∧ nm.toList = [])
def two (c d : Int) : Bool := (decide (c = -1) && decide (d = -1)) || (isReg c && (decide (d = -1) || isReg d))
def regNum (a b c d lo hi : Int) (nm : ByteArray) : Bool := plain c d nm && isReg a && inR b lo hi
def oneReg (a b c d : Int) (nm : ByteArray) : Bool := plain c d nm && isReg a && decide (b = 0)
def addI (a b c d : Int) (nm : ByteArray) : Bool := isReg a && isReg b && isReg c && decide (d = 0) && decide (nm.toList = [])
def sendI (a b c d : Int) (nm : ByteArray) : Bool := isReg a && isReg b && two c d && isName nm
def newI (a b c d : Int) (nm : ByteArray) : Bool := isReg a && decide (b = 0) && two c d && isName nm
def setI (a b c d : Int) (nm : ByteArray) : Bool := plain c d nm && inR a 0 2 && isReg b
def isI (x : I) : Bool :=
  if x.op = 1 then regNum x.a x.b x.c x.d 0 999999 x.name
  else if x.op = 2 then regNum x.a x.b x.c x.d 0 1 x.name
  else if x.op = 3 then regNum x.a x.b x.c x.d 0 2 x.name
  else if x.op = 4 then oneReg x.a x.b x.c x.d x.name
  else if x.op = 5 then addI x.a x.b x.c x.d x.name
  else if x.op = 6 then sendI x.a x.b x.c x.d x.name
  else if x.op = 7 then newI x.a x.b x.c x.d x.name
  else if x.op = 8 then setI x.a x.b x.c x.d x.name
  else if x.op = 9 then regNum x.a x.b x.c x.d 1 12 x.name
  else if x.op = 10 then oneReg x.a x.b x.c x.d x.name
  else false
/-- The registers that are read. -/
def passed (c d : Int) : List Int := (if c = -1 then [] else [c]) ++ (if d = -1 then [] else [d])
def regsOf (x : I) : List Int :=
  if x.op = 5 then [x.b, x.c]
  else if x.op = 6 then x.b :: passed x.c x.d
  else if x.op = 7 then passed x.c x.d
  else if x.op = 8 then [x.b]
  else if x.op = 9 then [x.a]
  else if x.op = 10 then [x.a]
  else []
def targetOf (x : I) : Int := if 1 ≤ x.op ∧ x.op ≤ 7 then x.a else -1
def opName (op : Int) : ByteArray :=
  if op = 1 then ⟨#[99, 111, 110, 115, 116]⟩
  else if op = 2 then ⟨#[97, 114, 103]⟩
  else if op = 3 then ⟨#[115, 108, 111, 116]⟩
  else if op = 4 then ⟨#[115, 101, 108, 102]⟩
  else if op = 5 then ⟨#[97, 100, 100]⟩
  else if op = 6 then ⟨#[115, 101, 110, 100]⟩
  else if op = 7 then ⟨#[110, 101, 119]⟩
  else if op = 8 then ⟨#[115, 101, 116]⟩
  else if op = 9 then ⟨#[115, 107, 105, 112]⟩
  else if op = 10 then ⟨#[114, 101, 116, 117, 114, 110]⟩
  else ⟨#[]⟩
theorem opCases (op : Int) : op = 1 ∨ op = 2 ∨ op = 3 ∨ op = 4 ∨ op = 5 ∨ op = 6 ∨ op = 7 ∨ op = 8 ∨ op = 9 ∨ op = 10 ∨ ¬ (1 ≤ op ∧ op ≤ 10) := by omega
end Go.Proofs.Ytchofnligbgigaa
