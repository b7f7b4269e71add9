/- Chapter 11, plain: what is decoded. -/
import Derived.Test.YtchofnligbgigaaDecG
import Derived.LoopTactic
import Derived.Lib.Hide
import Derived.Deep.QuietTactic
import Derived.BigQuiet
import Derived.Deep.RegionWith
import Derived.Handy
namespace Go.Proofs.Ytchofnligbgigaa
open Go.RowKit
set_option linter.unusedVariables false
set_option linter.unusedSimpArgs false
theorem decM_ok {zs ns nm : List Int} (hb : Byt zs) (h : decM zs = some (ns, nm)) : ∃ o : Nat, numsR zs = some (ns, (o : Int)) ∧ readB zs (o : Int) 6 = some (nm, (zs.length : Int)) ∧ okN ns nm = true := by
  rcases hN : numsR zs with _ | ⟨ns', o⟩
  · rw [decM_no hN] at h
    cases h
  · obtain ⟨o', rfl, -⟩ := numsR_spec hb hN
    rcases hR : readB zs (o' : Int) 6 with _ | ⟨nm', e⟩
    · rw [decM_nm hN hR] at h
      cases h
    · rw [decM_at hN hR] at h
      split at h
      · rename_i h2
        simp only [Option.some.injEq, Prod.mk.injEq] at h
        obtain ⟨rfl, rfl⟩ := h
        obtain ⟨rfl, h3⟩ := h2
        exact ⟨o', rfl, hR, h3⟩
      · cases h
theorem decM_wires {zs : List Int} (hb : Byt zs) : (∀ d ∈ wiresL ((fstD (decM zs)).drop 11), Has tyWire d) ∧ (wiresL ((fstD (decM zs)).drop 11)).length ≤ 2 := by
  rcases hd : decM zs with _ | ⟨ns, nm⟩
  · exact ⟨(fun d h => by cases h), Nat.zero_le _⟩
  · obtain ⟨o, hN, -, -⟩ := decM_ok hb hd
    obtain ⟨o', -, -, h1, h2, h3, h4, -⟩ := numsR_spec hb hN
    show (∀ d ∈ wiresL (ns.drop 11), Has tyWire d) ∧ (wiresL (ns.drop 11)).length ≤ 2
    refine ⟨wiresL_has _ (fun z hz => h4 z (List.mem_of_mem_drop hz)), ?_⟩
    rw [wiresL_len (ns.drop 11) (at0 ns 10).toNat (by rw [List.length_drop]; omega)]
    omega
end Go.Proofs.Ytchofnligbgigaa
