/- Chapter 11: what a decoding gives. -/
import Derived.Test.YtchofnligbgigaaZxM
import Derived.Test.YtchofnligbgigaaTyM2
import Derived.LoopTactic
import Derived.Lib.Hide
import Derived.Deep.QuietTactic
import Derived.BigQuiet
import Derived.Deep.RegionWith
import Derived.Handy
namespace Go.Proofs.Ytchofnligbgigaa
open Go.RowKit
set_option linter.unusedVariables false
set_option linter.unusedSimpArgs false
def fstD (r : Option (List Int × List Int)) : List Int := match r with | none => [] | some p => p.1
def sndD (r : Option (List Int × List Int)) : List Int := match r with | none => [] | some p => p.2
/-- A message of its own and a bool come back. -/
def GivesD9 (a0 a1 a2 a3 : Int) (s : ByteArray) (L : List Dat) (J : Nat) (a8 a9 a4 a5 a6 a7 : Int) (b : Bool) (w : World) (e : Ending) (w' : World) : Prop :=
  ∃ (B5 : Option Addr) (k5 : Nat), e = .returned (.tuple #[.agg #[.int .i64 a0, .int .i64 a1, .int .i64 a2, .int .i64 a3, .string s, .slice B5 J k5, .int .i64 a8, .int .i64 a9, .int .i64 a4, .int .i64 a5, .int .i64 a6, .int .i64 a7], .bool b]) ∧ Owns w' (.l L) [.slice B5 J k5] (rng w.heap.size w'.heap.size) ∧ Below w.heap.size w w'
def GivesDM (r : Option (List Int × List Int)) (w : World) (e : Ending) (w' : World) : Prop :=
  GivesD9 (at0 (fstD r) 0) (at0 (fstD r) 1) (at0 (fstD r) 2) (at0 (fstD r) 3) (bytesOf (sndD r)) (wiresL ((fstD r).drop 11)) (wiresL ((fstD r).drop 11)).length (at0 (fstD r) 8) (at0 (fstD r) 9) (at0 (fstD r) 4) (at0 (fstD r) 5) (at0 (fstD r) 6) (at0 (fstD r) 7) r.isSome w e w'
theorem ownsNil (w : World) (B : Nat → Prop) : Owns w (.l []) [.slice none 0 0] B := by rw [Owns]; exact ⟨none, 0, 0, rfl, rfl, Or.inl rfl⟩
theorem GivesDM.zero {w w' : World} (hb : Below w.heap.size w w') : GivesDM none w (.returned (.tuple #[.agg #[.int .i64 0, .int .i64 0, .int .i64 0, .int .i64 0, .string ⟨#[]⟩, .slice none 0 0, .int .i64 0, .int .i64 0, .int .i64 0, .int .i64 0, .int .i64 0, .int .i64 0], .bool false])) w' := ⟨none, 0, rfl, ownsNil _ _, hb⟩
theorem readB_spec {zs nm : List Int} {off mx e : Int} (hb : Byt zs) (h : readB zs off mx = some (nm, e)) : Byt nm ∧ ∃ v k : Nat, readU zs off = some (v, k) ∧ nm = (zs.drop (off + k).toNat).take v ∧ e = off + k + v ∧ (v : Int) ≤ mx ∧ off + k + v ≤ zs.length := by
  rcases hr : readU zs off with _ | ⟨v, k⟩
  · rw [readB_no hr] at h
    cases h
  · by_cases ho : mx < v ∨ (zs.length : Int) - (off + k) < v
    · rw [readB_off hr ho] at h
      cases h
    · rw [readB_yes hr ho] at h
      simp only [Option.some.injEq, Prod.mk.injEq] at h
      obtain ⟨rfl, rfl⟩ := h
      exact ⟨(hb.drop _).take _, v, k, rfl, rfl, rfl, by omega, by omega⟩
end Go.Proofs.Ytchofnligbgigaa
