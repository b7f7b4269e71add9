/- Chapter 10: an export that is put, plain. -/
import Derived.Test.YtmeacgpebpfpbaaLnkP
import Derived.Test.YtmeacgpebpfpbaaLnkF
import Derived.LoopTactic
import Derived.Lib.Hide
import Derived.Deep.QuietTactic
import Derived.BigQuiet
import Derived.Deep.RegionWith
import Derived.Handy
namespace Go.Proofs.Ytmeacgpebpfpbaa
open Go.RowKit
set_option linter.unusedVariables false
set_option linter.unusedSimpArgs false
def bump (d : Dat) : Dat := .r [.i (fld 0 d), .i (fld 1 d), .i (wrap64 (fld 2 d + 1))]
def putL (x nx : Int) : List Dat → List Dat
  | [] => [.r [.i nx, .i x, .i 1]]
  | d :: L => if isF 1 x d then bump d :: L else d :: putL x nx L
def putN (x f : Int) (L : List Dat) : Int := if 0 ≤ idx (isF 1 x) L then f else wrap64 (f + 1)
def putP (x nx : Int) (L : List Dat) : Int := look (isF 1 x) 0 nx L
theorem putL_none {x nx : Int} : ∀ {L : List Dat}, (∀ d ∈ L, isF 1 x d = false) → putL x nx L = L ++ [.r [.i nx, .i x, .i 1]]
  | [], _ => rfl
  | d :: L, h => by rw [putL, if_neg (by rw [h d List.mem_cons_self]; simp), putL_none (fun y hy => h y (List.mem_cons_of_mem _ hy))]; rfl
theorem putL_some {x nx : Int} : ∀ {L : List Dat} {i : Nat} {d : Dat}, (∀ (j : Nat) (e : Dat), j < i → L[j]? = some e → isF 1 x e = false) → L[i]? = some d → isF 1 x d = true → putL x nx L = L.set i (bump d)
  | [], _, _, _, h, _ => by simp at h
  | y :: L, 0, d, _, h, hn => by
    obtain rfl : y = d := by simpa using h
    rw [putL, if_pos hn]; rfl
  | y :: L, i + 1, d, h0, h, hn => by
    rw [putL, if_neg (by rw [h0 0 y (by omega) rfl]; simp), putL_some (i := i) (fun j e hj he => h0 (j + 1) e (by omega) (by simpa using he)) (by simpa using h) hn]; rfl
theorem putN_none {x f : Int} {L : List Dat} (h : idx (isF 1 x) L = -1) : putN x f L = wrap64 (f + 1) := by rw [putN, if_neg (by rw [h]; omega)]
theorem putN_some {x f : Int} {L : List Dat} {i : Nat} (h : idx (isF 1 x) L = i) : putN x f L = f := by rw [putN, if_pos (by rw [h]; omega)]
theorem set_last {L : List Dat} {d d' : Dat} {n : Nat} (h : L.length = n) : (L ++ [d]).set n d' = L ++ [d'] := by
  subst h
  rw [List.set_append_right _ _ (Nat.le_refl _), Nat.sub_self]; rfl
theorem GivesLI.of {f0 : Int} {f1 : Bool} {L2 L2' : List Dat} {n2 n2' : Nat} {f3 f3' : Int} {L4 : List Dat} {n4 : Nat} {f5 : Int} {L6 : List Dat} {n6 : Nat} {v v' : Int} {w w' : World} {e : Ending} (h : GivesLI f0 f1 L2 n2 f3 L4 n4 f5 L6 n6 v w e w') (e1 : L2 = L2') (e2 : n2 = n2') (e3 : f3 = f3') (e4 : v = v') : GivesLI f0 f1 L2' n2' f3' L4 n4 f5 L6 n6 v' w e w' := by
  subst e1; subst e2; subst e3; subst e4; exact h
end Go.Proofs.Ytmeacgpebpfpbaa
