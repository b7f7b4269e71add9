/- Scripts as plain functions of data. -/
import Derived.Test.YtaepconmjmcbdaaDatApp
import Derived.Test.YtaepconmjmcbdaaInsV
namespace Go.Proofs.Ytaepconmjmcbdaa
open Go.RowKit
def nameOf : Dat → ByteArray
  | .r (.s n :: _) => n
  | _ => ⟨#[]⟩
def insOf : Dat → I
  | .r [.i op, .i a, .i b, .i c, .i d, .s nm] => ⟨op, a, b, c, d, nm⟩
  | _ => ⟨0, 0, 0, 0, 0, ⟨#[]⟩⟩
def codeOf : Dat → List Dat
  | .r [.s _, .l code] => code
  | _ => []
def isInsD (d : Dat) : Bool := isI (insOf d)
def isMeth (d : Dat) : Bool := (codeOf d).all isInsD && isName (nameOf d) && decide ((codeOf d).length ≤ 12)
/-- No name stands twice. -/
def apart (L : List Dat) : Bool := decide ((L.map nameOf).Pairwise (· ≠ ·))
def isScr (d : Dat) : Bool := (codeOf d).all isMeth && apart (codeOf d) && isName (nameOf d) && decide ((codeOf d).length ≤ 4)
def isLib (L : List Dat) : Bool := L.all isScr && apart L && decide (L.length ≤ 6)
def findFrom : List Dat → ByteArray → Int → Int
  | [], _, _ => -1
  | d :: L, nm, i => if nameOf d = nm then i else findFrom L nm (i + 1)
def find (L : List Dat) (nm : ByteArray) : Int := findFrom L nm 0
theorem findFrom_at : ∀ {L : List Dat} {nm : ByteArray} {i : Nat} {k : Int} {d : Dat}, (∀ (j : Nat) (e : Dat), j < i → L[j]? = some e → ¬ nameOf e = nm) → L[i]? = some d → nameOf d = nm → findFrom L nm k = k + i
  | [], _, _, _, _, _, h, _ => by simp at h
  | x :: L, nm, 0, k, d, _, h, hn => by
    obtain rfl : x = d := by simpa using h
    rw [findFrom, if_pos hn]; simp
  | x :: L, nm, i + 1, k, d, h0, h, hn => by
    rw [findFrom, if_neg (h0 0 x (by omega) rfl), findFrom_at (i := i) (fun j e hj he => h0 (j + 1) e (by omega) (by simpa using he)) (by simpa using h) hn]
    omega
theorem findFrom_none : ∀ {L : List Dat} {nm : ByteArray} {k : Int}, (∀ (j : Nat) (e : Dat), L[j]? = some e → ¬ nameOf e = nm) → findFrom L nm k = -1
  | [], _, _, _ => rfl
  | x :: L, nm, k, h0 => by
    rw [findFrom, if_neg (h0 0 x rfl)]
    exact findFrom_none (fun j e he => h0 (j + 1) e (by simpa using he))
theorem find_at {L : List Dat} {nm : ByteArray} {i : Nat} {d : Dat} (h : ∀ (j : Nat) (e : Dat), j < i → L[j]? = some e → ¬ nameOf e = nm) (hd : L[i]? = some d) (hn : nameOf d = nm) : (i : Int) = find L nm := by
  rw [find, findFrom_at h hd hn]; simp
theorem find_none {L : List Dat} {nm : ByteArray} (h : ∀ (j : Nat) (e : Dat), L[j]? = some e → ¬ nameOf e = nm) : -1 = find L nm := (findFrom_none h).symm
def ends (d : Dat) : Bool := match (codeOf d).getLast? with
  | some x => decide ((insOf x).op = 10)
  | none => false
theorem bytes_ne {a b : ByteArray} (h : ¬ a = b) : ¬ a.toList = b.toList := fun e => h (by
  rw [ByteArray.toList_eq, ByteArray.toList_eq] at e
  obtain ⟨⟨x⟩⟩ := a
  obtain ⟨⟨y⟩⟩ := b
  simp only at e
  subst e
  rfl)
theorem bytes_neb {a b : ByteArray} (h : ¬ a = b) : (a.toList == b.toList) = false := by simpa using bytes_ne h
end Go.Proofs.Ytaepconmjmcbdaa
