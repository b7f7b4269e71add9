/- Chapter 10: an export that is released, plain. -/
import Derived.Test.YtdedioghljkflaaLnkX
import Derived.LoopTactic
import Derived.Lib.Hide
import Derived.Deep.QuietTactic
import Derived.BigQuiet
import Derived.Deep.RegionWith
import Derived.Handy
namespace Go.Proofs.Ytdedioghljkflaa
open Go.RowKit
set_option linter.unusedVariables false
set_option linter.unusedSimpArgs false
/-! ### An export is released -/
def setC (n : Int) (d : Dat) : Dat := .r [.i (fld 0 d), .i (fld 1 d), .i n]
def relL (p n : Int) : List Dat → List Dat
  | [] => []
  | d :: L => if isF 0 p d then (if wrap64 (fld 2 d - n) < 1 then L else setC (wrap64 (fld 2 d - n)) d :: L) else d :: relL p n L
def relX (p n : Int) (L : List Dat) : List Dat := if n < 1 then L else relL p n L
theorem relL_none {p n : Int} : ∀ {L : List Dat}, (∀ d ∈ L, isF 0 p d = false) → relL p n L = L
  | [], _ => rfl
  | d :: L, h => by rw [relL, if_neg (by rw [h d List.mem_cons_self]; simp), relL_none (fun y hy => h y (List.mem_cons_of_mem _ hy))]
theorem relX_none {p n : Int} {L : List Dat} (h : ∀ d ∈ L, isF 0 p d = false) : relX p n L = L := by rw [relX, relL_none h]; split <;> rfl
theorem relX_few {p n : Int} {L : List Dat} (h : n < 1) : relX p n L = L := by rw [relX, if_pos h]
theorem relL_some {p n : Int} : ∀ {L : List Dat} {i : Nat} {d : Dat}, (∀ (j : Nat) (e : Dat), j < i → L[j]? = some e → isF 0 p e = false) → L[i]? = some d → isF 0 p d = true → relL p n L = if wrap64 (fld 2 d - n) < 1 then L.eraseIdx i else L.set i (setC (wrap64 (fld 2 d - n)) d)
  | [], _, _, _, h, _ => by simp at h
  | y :: L, 0, d, _, h, hn => by
    obtain rfl : y = d := by simpa using h
    rw [relL, if_pos hn]; split <;> rfl
  | y :: L, i + 1, d, h0, h, hn => by
    rw [relL, if_neg (by rw [h0 0 y (by omega) rfl]; simp), relL_some (i := i) (fun j e hj he => h0 (j + 1) e (by omega) (by simpa using he)) (by simpa using h) hn]; split <;> rfl
theorem relX_out {p n : Int} {L : List Dat} {i : Nat} {d : Dat} (hn : ¬ n < 1) (h0 : ∀ (j : Nat) (e : Dat), j < i → L[j]? = some e → isF 0 p e = false) (h : L[i]? = some d) (hp : isF 0 p d = true) (hc : wrap64 (fld 2 d - n) < 1) : relX p n L = L.eraseIdx i := by rw [relX, if_neg hn, relL_some h0 h hp, if_pos hc]
theorem relX_left {p n : Int} {L : List Dat} {i : Nat} {d : Dat} (hn : ¬ n < 1) (h0 : ∀ (j : Nat) (e : Dat), j < i → L[j]? = some e → isF 0 p e = false) (h : L[i]? = some d) (hp : isF 0 p d = true) (hc : ¬ wrap64 (fld 2 d - n) < 1) : relX p n L = L.set i (setC (wrap64 (fld 2 d - n)) d) := by rw [relX, if_neg hn, relL_some h0 h hp, if_neg hc]
theorem relL_len (p n : Int) : ∀ L : List Dat, (relL p n L).length ≤ L.length
  | [] => Nat.le_refl _
  | y :: L => by
    rw [relL]
    split
    · split <;> simp
    · have := relL_len p n L; simp; omega
theorem relX_len (p n : Int) (L : List Dat) : (relX p n L).length ≤ L.length := by rw [relX]; split; exact Nat.le_refl _; exact relL_len p n L
theorem relL_has {p n : Int} : ∀ {L : List Dat}, (∀ d ∈ L, Has tyExport d) → ∀ d ∈ relL p n L, Has tyExport d
  | [], _, d, h => by cases h
  | y :: L, hL, d, h => by
    rw [relL] at h
    split at h
    · split at h
      · exact hL d (List.mem_cons_of_mem _ h)
      · rcases List.mem_cons.1 h with rfl | h
        · obtain ⟨a, b, c, e, h1, h2, h3⟩ := has_x3_inv (hL y List.mem_cons_self)
          subst e
          exact has_x3 h1 h2 (wrap64_bd _)
        · exact hL d (List.mem_cons_of_mem _ h)
    · rcases List.mem_cons.1 h with rfl | h
      · exact hL _ List.mem_cons_self
      · exact relL_has (fun z hz => hL z (List.mem_cons_of_mem _ hz)) d h
theorem relX_has {p n : Int} {L : List Dat} (hL : ∀ d ∈ L, Has tyExport d) : ∀ d ∈ relX p n L, Has tyExport d := by rw [relX]; split; exact hL; exact relL_has hL
theorem GivesL.of {f0 : Int} {f1 : Bool} {L2 L2' : List Dat} {n2 n2' : Nat} {f3 : Int} {L4 : List Dat} {n4 : Nat} {f5 : Int} {L6 : List Dat} {n6 : Nat} {w w' : World} {e : Ending} (h : GivesL f0 f1 L2 n2 f3 L4 n4 f5 L6 n6 w e w') (e1 : L2 = L2') (e2 : n2 = n2') : GivesL f0 f1 L2' n2' f3 L4 n4 f5 L6 n6 w e w' := by
  subst e1; subst e2; exact h
theorem grown_touch {w w' : World} {b : Nat} (hg : w.grownBy w' (some b)) : Touch (fun x => x = b) w w' := ⟨hg.os, hg.tape, hg.output, hg.size, fun k hk hn => hg.block k hk (fun e => hn (Option.some.inj e))⟩
end Go.Proofs.Ytdedioghljkflaa
