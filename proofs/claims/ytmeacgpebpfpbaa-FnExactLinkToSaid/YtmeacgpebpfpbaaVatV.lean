/- Chapter 12: vats. -/
import Derived.Test.YtmeacgpebpfpbaaCom
import Derived.Test.YtmeacgpebpfpbaaTyV0
import Derived.LoopTactic
import Derived.Lib.Hide
import Derived.Deep.QuietTactic
import Derived.BigQuiet
import Derived.Deep.RegionWith
import Derived.Handy
namespace Go.Proofs.Ytmeacgpebpfpbaa
open Go.RowKit
set_option linter.unusedVariables false
set_option linter.unusedSimpArgs false
/-- A link to this peer; one that is up. -/
def peerIs (x : Int) : Dat → Bool
  | .r (.i p :: _) => p == x
  | _ => false
def upIs (x : Int) : Dat → Bool
  | .r (.i p :: .b u :: _) => p == x && u
  | _ => false
theorem idx_of {p : Dat → Bool} {L : List Dat} {n : Nat} (hn : L.length = n) (h : ∀ (j : Nat) (e : Dat), j < n → L[j]? = some e → p e = false) : idx p L = -1 := (idx_none (fun j e he => h j e (by rw [← hn]; exact (List.getElem?_eq_some_iff.1 he).1) he)).symm
theorem any_at {p : Dat → Bool} {L : List Dat} {i : Nat} {d : Dat} (hd : L[i]? = some d) (hp : p d = true) : true = L.any p := by
  symm; rw [List.any_eq_true]; exact ⟨d, List.mem_of_getElem? hd, hp⟩
theorem any_no {p : Dat → Bool} {L : List Dat} {n : Nat} (hn : L.length = n) (h : ∀ (j : Nat) (e : Dat), j < n → L[j]? = some e → p e = false) : false = L.any p := by
  symm; rw [List.any_eq_false]; intro d hd
  obtain ⟨j, hj, rfl⟩ := List.getElem_of_mem hd
  rw [h j _ (by omega) (List.getElem?_eq_getElem hj)]; simp
end Go.Proofs.Ytmeacgpebpfpbaa
