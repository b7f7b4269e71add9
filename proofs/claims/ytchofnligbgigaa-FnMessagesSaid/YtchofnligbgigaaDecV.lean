/- Chapter 11, plain: decoding. -/
import Derived.Test.YtchofnligbgigaaEncV
import Derived.Test.YtchofnligbgigaaDecL
import Derived.LoopTactic
import Derived.Lib.Hide
import Derived.Deep.QuietTactic
import Derived.BigQuiet
import Derived.Deep.RegionWith
import Derived.Handy
namespace Go.Proofs.Ytchofnligbgigaa
open Go.RowKit
set_option linter.unusedVariables false
set_option linter.unusedSimpArgs false
def at0 (ns : List Int) (k : Nat) : Int := ns.getD k 0
theorem at0_some {ns : List Int} {k : Nat} (h : k < ns.length) : ns[k]? = some (at0 ns k) := by rw [at0, List.getD_eq_getElem?_getD, List.getElem?_eq_getElem h]; rfl
theorem at0_append {a b : List Int} {k : Nat} (h : k < a.length) : at0 (a ++ b) k = at0 a k := by rw [at0, at0, List.getD_eq_getElem?_getD, List.getD_eq_getElem?_getD, List.getElem?_append_left h]
theorem at0_last {a : List Int} {v : Int} {k : Nat} (h : a.length = k) : at0 (a ++ [v]) k = v := by subst h; simp [at0]
def wiresL : List Int → List Dat
  | a :: b :: t => .r [.i a, .i b] :: wiresL t
  | _ => []
/-- The numbers with which an encoding begins, and where they end. -/
def numsR (zs : List Int) : Option (List Int × Int) :=
  match decGo zs 11 0 with
  | none => none
  | some (l, o) => if 2 < at0 l 10 then none else (decGo zs (2 * (at0 l 10).toNat) o).map fun p => (l ++ p.1, p.2)
theorem numsR_no {zs : List Int} (h : decGo zs 11 0 = none) : numsR zs = none := by rw [numsR, h]
theorem numsR_many {zs l : List Int} {o : Int} (h : decGo zs 11 0 = some (l, o)) (hv : 2 < at0 l 10) : numsR zs = none := by simp only [numsR, h]; rw [if_pos hv]
theorem numsR_few {zs l : List Int} {o : Int} (h : decGo zs 11 0 = some (l, o)) (hv : ¬ 2 < at0 l 10) : numsR zs = (decGo zs (2 * (at0 l 10).toNat) o).map fun p => (l ++ p.1, p.2) := by simp only [numsR, h]; rw [if_neg hv]
def okN (ns nm : List Int) : Bool := msgB (at0 ns 0) (at0 ns 1) (at0 ns 2) (at0 ns 3) (bytesOf nm) (wiresL (ns.drop 11)) (at0 ns 8) (at0 ns 9) (at0 ns 4) (at0 ns 5) (at0 ns 6) (at0 ns 7)
/-- What is decoded: the numbers and the name's bytes. -/
def decM (zs : List Int) : Option (List Int × List Int) :=
  match numsR zs with
  | none => none
  | some (ns, o) => match readB zs o 6 with
    | none => none
    | some (nm, e) => if e = zs.length ∧ okN ns nm = true then some (ns, nm) else none
theorem decM_no {zs : List Int} (h : numsR zs = none) : decM zs = none := by rw [decM, h]
theorem decM_nm {zs ns : List Int} {o : Int} (h : numsR zs = some (ns, o)) (h2 : readB zs o 6 = none) : decM zs = none := by simp only [decM, h, h2]
theorem decM_at {zs ns nm : List Int} {o e : Int} (h : numsR zs = some (ns, o)) (h2 : readB zs o 6 = some (nm, e)) : decM zs = if e = zs.length ∧ okN ns nm = true then some (ns, nm) else none := by simp only [decM, h, h2]
/-- What a list of numbers is the encoding of. -/
theorem decGo_spec {zs : List Int} (hb : Byt zs) : ∀ (c o : Nat) (l : List Int) (e : Int), o ≤ zs.length → decGo zs c (o : Int) = some (l, e) → ∃ e' : Nat, e = e' ∧ o ≤ e' ∧ e' ≤ zs.length ∧ l.length = c ∧ (∀ z ∈ l, 0 ≤ z ∧ z ≤ 1000000000000) ∧ zs.drop o = encL l ++ zs.drop e' := by
  intro c
  induction c with
  | zero =>
    intro o l e ho h
    simp only [decGo, Option.some.injEq, Prod.mk.injEq] at h
    obtain ⟨rfl, rfl⟩ := h
    exact ⟨o, rfl, Nat.le_refl _, ho, rfl, (fun z hz => by cases hz), by simp [encL]⟩
  | succ c ih =>
    intro o l e ho h
    rcases hr : readU zs (o : Int) with _ | ⟨v, k⟩
    · rw [decGo_no hr] at h
      cases h
    · rw [decGo_yes hr] at h
      obtain ⟨h1, h2, h3, h4, h5, h6⟩ := put_readU hb hr
      have hok : o + k ≤ zs.length := by omega
      rcases hd : decGo zs c ((o : Int) + (k : Int)) with _ | ⟨l', e2⟩
      · rw [hd] at h
        cases h
      · rw [hd] at h
        simp only [Option.map_some, Option.some.injEq, Prod.mk.injEq] at h
        obtain ⟨rfl, rfl⟩ := h
        have hd' : decGo zs c ((o + k : Nat) : Int) = some (l', e2) := by rw [← hd]; congr 1
        obtain ⟨e', rfl, g1, g2, g3, g4, g5⟩ := ih (o + k) l' e2 hok hd'
        refine ⟨e', rfl, by omega, g2, by simp [g3], fun z hz => ?_, ?_⟩
        · rcases List.mem_cons.1 hz with rfl | hz
          · omega
          · exact g4 z hz
        · have e1 : zs.drop o = (zs.drop o).take k ++ (zs.drop o).drop k := (List.take_append_drop _ _).symm
          rw [Int.toNat_natCast] at h6
          rw [e1, h6, List.drop_drop, g5, encL, encU_in h5, List.append_assoc]
theorem numsR_spec {zs ns : List Int} {o : Int} (hb : Byt zs) (h : numsR zs = some (ns, o)) : ∃ o' : Nat, o = o' ∧ o' ≤ zs.length ∧ 0 ≤ at0 ns 10 ∧ at0 ns 10 ≤ 2 ∧ ns.length = 11 + 2 * (at0 ns 10).toNat ∧ (∀ z ∈ ns, 0 ≤ z ∧ z ≤ 1000000000000) ∧ zs = encL ns ++ zs.drop o' := by
  rcases hd : decGo zs 11 0 with _ | ⟨l, o1⟩
  · rw [numsR_no hd] at h
    cases h
  · obtain ⟨e1, rfl, g1, g2, g3, g4, g5⟩ := decGo_spec hb 11 0 l o1 (Nat.zero_le _) hd
    have h10 := g4 (at0 l 10) (List.mem_of_getElem? (at0_some (by omega)))
    by_cases hv : 2 < at0 l 10
    · rw [numsR_many hd hv] at h
      cases h
    · rw [numsR_few hd hv] at h
      rcases hd2 : decGo zs (2 * (at0 l 10).toNat) (e1 : Int) with _ | ⟨l2, o2⟩
      · rw [hd2] at h
        cases h
      · rw [hd2] at h
        simp only [Option.map_some, Option.some.injEq, Prod.mk.injEq] at h
        obtain ⟨rfl, rfl⟩ := h
        obtain ⟨e2, rfl, k1, k2, k3, k4, k5⟩ := decGo_spec hb _ e1 l2 o2 g2 hd2
        have ha : at0 (l ++ l2) 10 = at0 l 10 := at0_append (by omega)
        rw [ha]
        refine ⟨e2, rfl, k2, h10.1, by omega, by rw [List.length_append]; omega, fun z hz => ?_, ?_⟩
        · rcases List.mem_append.1 hz with hz | hz
          · exact g4 z hz
          · exact k4 z hz
        · rw [List.drop_zero] at g5
          rw [encL_append, List.append_assoc, ← k5, ← g5]
/-- Midway in the numbers: m are read, wd are wanted, the next one begins at o. -/
structure RdS (zs : List Int) (m wd o : Nat) (pre : List Int) : Prop where
  len : pre.length = m
  ol : o ≤ zs.length
  st : (m ≤ 10 ∧ wd = 11 ∧ (decGo zs (11 - m) (o : Int)).map (fun p => (pre ++ p.1, p.2)) = decGo zs 11 0) ∨ (11 ≤ m ∧ m ≤ wd ∧ wd ≤ 15 ∧ (decGo zs (wd - m) (o : Int)).map (fun p => (pre ++ p.1, p.2)) = numsR zs)
theorem map_nil_pair (r : Option (List Int × Int)) : r.map (fun p => (([] : List Int) ++ p.1, p.2)) = r := by cases r <;> rfl
theorem RdS.start (zs : List Int) : RdS zs 0 11 0 [] := ⟨rfl, Nat.zero_le _, Or.inl ⟨by omega, rfl, map_nil_pair _⟩⟩
theorem RdS.wd15 {zs pre : List Int} {m wd o : Nat} (h : RdS zs m wd o pre) : wd ≤ 15 ∧ m ≤ 15 := by rcases h.st with ⟨h1, h2, -⟩ | ⟨h1, h2, h3, -⟩ <;> omega
theorem RdS.fail {zs pre : List Int} {m wd o : Nat} (h : RdS zs m wd o pre) (hm : m < wd) (hr : readU zs (o : Int) = none) : numsR zs = none := by
  rcases h.st with ⟨h1, h2, h3⟩ | ⟨h1, h2, h3, h4⟩
  · rw [show 11 - m = (11 - (m + 1)) + 1 by omega, decGo_no hr] at h3
    exact numsR_no h3.symm
  · rw [show wd - m = (wd - (m + 1)) + 1 by omega, decGo_no hr] at h4
    exact h4.symm
theorem map_snoc (pre : List Int) (v : Int) (r : Option (List Int × Int)) : (r.map (fun p => (v :: p.1, p.2))).map (fun p => (pre ++ p.1, p.2)) = r.map (fun p => ((pre ++ [v]) ++ p.1, p.2)) := by cases r <;> simp
theorem RdS.next {zs pre : List Int} {m wd o v k : Nat} (h : RdS zs m wd o pre) (hb : Byt zs) (hm : m < wd) (hne : ¬ m = 10) (hr : readU zs (o : Int) = some (v, k)) : RdS zs (m + 1) wd (o + k) (pre ++ [(v : Int)]) := by
  have hp := put_readU hb hr
  refine ⟨by simp [h.len], by omega, ?_⟩
  rcases h.st with ⟨h1, h2, h3⟩ | ⟨h1, h2, h3, h4⟩
  · left
    rw [show 11 - m = (11 - (m + 1)) + 1 by omega, decGo_yes hr, map_snoc] at h3
    exact ⟨by omega, h2, by rw [← h3]; congr 1⟩
  · right
    rw [show wd - m = (wd - (m + 1)) + 1 by omega, decGo_yes hr, map_snoc] at h4
    exact ⟨by omega, by omega, h3, by rw [← h4]; congr 1⟩
theorem RdS.head {zs pre : List Int} {wd o v k : Nat} (h : RdS zs 10 wd o pre) (hr : readU zs (o : Int) = some (v, k)) : decGo zs 11 0 = some (pre ++ [(v : Int)], ((o + k : Nat) : Int)) := by
  rcases h.st with ⟨h1, h2, h3⟩ | ⟨h1, h2, h3, h4⟩
  · rw [show 11 - 10 = 0 + 1 from rfl, decGo_yes hr, map_snoc] at h3
    rw [← h3]
    simp [decGo]
  · omega
theorem RdS.many {zs pre : List Int} {wd o v k : Nat} (h : RdS zs 10 wd o pre) (hr : readU zs (o : Int) = some (v, k)) (hv : 2 < v) : numsR zs = none :=
  numsR_many (h.head hr) (by rw [at0_last h.len]; omega)
theorem RdS.few {zs pre : List Int} {wd o v k : Nat} (h : RdS zs 10 wd o pre) (hb : Byt zs) (hr : readU zs (o : Int) = some (v, k)) (hv : v ≤ 2) : RdS zs 11 (11 + v * 2) (o + k) (pre ++ [(v : Int)]) := by
  have hp := put_readU hb hr
  refine ⟨by simp [h.len], by omega, Or.inr ⟨Nat.le_refl _, by omega, by omega, ?_⟩⟩
  rw [numsR_few (h.head hr) (by rw [at0_last h.len]; omega), at0_last h.len, Int.toNat_natCast, show 11 + v * 2 - 11 = 2 * v by omega]
theorem RdS.done {zs pre : List Int} {m wd o : Nat} (h : RdS zs m wd o pre) (hm : ¬ m < wd) : numsR zs = some (pre, (o : Int)) ∧ m = wd := by
  rcases h.st with ⟨h1, h2, h3⟩ | ⟨h1, h2, h3, h4⟩
  · omega
  · have e : wd - m = 0 := by omega
    rw [e] at h4
    refine ⟨?_, by omega⟩
    rw [← h4]
    simp [decGo]
theorem RdS.wd11 {zs pre : List Int} {wd o : Nat} (h : RdS zs 10 wd o pre) : wd = 11 := by rcases h.st with ⟨h1, h2, -⟩ | ⟨h1, h2, h3, -⟩ <;> omega
/-- The numbers come back, where they end, and whether they are all there. -/
def GivesRN (zs : List Int) (w : World) (e : Ending) (w' : World) : Prop :=
  ∃ (A : Option Addr) (n c : Nat) (ys : List Int) (x : Int) (b : Bool), e = .returned (.tuple #[.slice A n c, .int .i64 x, .bool b]) ∧ Own .i64 3 w.heap.size w'.heap.size w' A n c ys ∧ Below w.heap.size w w' ∧ ((b = false ∧ numsR zs = none) ∨ (b = true ∧ numsR zs = some (ys, x)))
theorem GivesRN.no {zs ys : List Int} {A : Option Addr} {n c : Nat} {x : Int} {b : Bool} {w w' : World} (hO : Own .i64 3 w.heap.size w'.heap.size w' A n c ys) (hb : Below w.heap.size w w') (h : b = false) (hn : numsR zs = none) : GivesRN zs w (.returned (.tuple #[.slice A n c, .int .i64 x, .bool b])) w' := ⟨_, _, _, _, _, _, rfl, hO, hb, Or.inl ⟨h, hn⟩⟩
theorem GivesRN.yes {zs ys : List Int} {A : Option Addr} {n c : Nat} {x y : Int} {b : Bool} {w w' : World} (hO : Own .i64 3 w.heap.size w'.heap.size w' A n c ys) (hb : Below w.heap.size w w') (h : b = true) (hx : y = x) (hn : numsR zs = some (ys, x)) : GivesRN zs w (.returned (.tuple #[.slice A n c, .int .i64 y, .bool b])) w' := by subst hx; exact ⟨_, _, _, _, _, _, rfl, hO, hb, Or.inr ⟨h, hn⟩⟩
end Go.Proofs.Ytchofnligbgigaa
