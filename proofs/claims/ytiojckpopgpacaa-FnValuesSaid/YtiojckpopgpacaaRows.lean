/-
  No cell of these rows narrows 'for every input' (looked for: loops, veiled, ifaces, maps, wideKeys, modest, calm, conditions, laid).
  DERIVED. THE GIVEN ROWS OF THIS SEAT. 8 by the template 'for every input the law returns true; each argument reads behind the call as it read before'; 0 by the template 'total and deterministic' (their statements: YtiojckpopgpacaaTotals.lean).
  GIVEN WITH THE SEED: the statements are not yours to turn. If you find one false, say at which input.
  Laid BY PROGRAM, IN A SANDBOX (cutbox-rows.mjs): the forced cells as the released guide's own fill.sh prints them over the translation bd876cb2b388f20a… (all of the seat's roots in one cut). By AI agents, Wed Nov 11 2026. No macro, syntax, notation, axiom, sorry.
-/
import Derived.Test.YtiojckpopgpacaaChecked
import GoSem.Claim
import GoSem.ClaimJoined
import GoSem.ClaimMapViews
import Derived.JoinedTies
import Derived.KernelRfl
namespace Go.Proofs.Ytiojckpopgpacaa
/- THE CELL 'sum', in the pinned program and in every row, IS THE sha256 OF THE DUMP (.gsa) THAT YtiojckpopgpacaaProg.lean LOADS. Nothing in Lean hashes anything: it is a label: what it is worth is what the hold of that sum in a sandbox is worth. -/
noncomputable def Try.pinned : Pinned := { name := "ytiojckpopgpacaa", sum := "bd876cb2b388f20a256776217cdf3392842c4b7b179c9e73a060282ae741a105", checked := Try.checked }
namespace Rows
def none {H : Type} : Left H := { results := [], args := [] }

/-- 'laws.FnValues': WHATEVER THE INPUT: true; the input reads as it did. -/
def fnValuesSpec : ChangeSpec := { name := "fnValues", fn := fun _ => fun
  | [d] => { results := [.lit (.bool true)], args := [d] }
  | _ => none }
def fnValuesRow : OpenClaim := { program := "ytiojckpopgpacaa", sum := "bd876cb2b388f20a256776217cdf3392842c4b7b179c9e73a060282ae741a105", func := "loop.example/g00591/laws.FnValues", spec := "fnValues", unfollowed := true, recurses := true, apart := false }
def FnValuesSaid : Prop := fnValuesRow.holds Try.pinned (OpenSpec.ofChange fnValuesSpec)

/-- ITS FALSE NEIGHBOUR: 'it returns false'. Refute it at one input. -/
def fnValuesWrong : ChangeSpec := { name := "fnValues", fn := fun _ => fun
  | [d] => { results := [.lit (.bool false)], args := [d] }
  | _ => none }
def FnValuesWrongFalsely : Prop := fnValuesRow.holds Try.pinned (OpenSpec.ofChange fnValuesWrong)

/-- 'laws.FnExactIntValue': WHATEVER THE INPUT: true; the input reads as it did. -/
def fnExactIntValueSpec : ChangeSpec := { name := "fnExactIntValue", fn := fun _ => fun
  | [d] => { results := [.lit (.bool true)], args := [d] }
  | _ => none }
def fnExactIntValueRow : OpenClaim := { program := "ytiojckpopgpacaa", sum := "bd876cb2b388f20a256776217cdf3392842c4b7b179c9e73a060282ae741a105", func := "loop.example/g00591/laws.FnExactIntValue", spec := "fnExactIntValue", apart := false }
def FnExactIntValueSaid : Prop := fnExactIntValueRow.holds Try.pinned (OpenSpec.ofChange fnExactIntValueSpec)

/-- ITS FALSE NEIGHBOUR: 'it returns false'. Refute it at one input. -/
def fnExactIntValueWrong : ChangeSpec := { name := "fnExactIntValue", fn := fun _ => fun
  | [d] => { results := [.lit (.bool false)], args := [d] }
  | _ => none }
def FnExactIntValueWrongFalsely : Prop := fnExactIntValueRow.holds Try.pinned (OpenSpec.ofChange fnExactIntValueWrong)

/-- 'laws.FnExactRefValue': WHATEVER THE INPUT: true; the input reads as it did. -/
def fnExactRefValueSpec : ChangeSpec := { name := "fnExactRefValue", fn := fun _ => fun
  | [d] => { results := [.lit (.bool true)], args := [d] }
  | _ => none }
def fnExactRefValueRow : OpenClaim := { program := "ytiojckpopgpacaa", sum := "bd876cb2b388f20a256776217cdf3392842c4b7b179c9e73a060282ae741a105", func := "loop.example/g00591/laws.FnExactRefValue", spec := "fnExactRefValue", apart := false }
def FnExactRefValueSaid : Prop := fnExactRefValueRow.holds Try.pinned (OpenSpec.ofChange fnExactRefValueSpec)

/-- ITS FALSE NEIGHBOUR: 'it returns false'. Refute it at one input. -/
def fnExactRefValueWrong : ChangeSpec := { name := "fnExactRefValue", fn := fun _ => fun
  | [d] => { results := [.lit (.bool false)], args := [d] }
  | _ => none }
def FnExactRefValueWrongFalsely : Prop := fnExactRefValueRow.holds Try.pinned (OpenSpec.ofChange fnExactRefValueWrong)

/-- 'laws.FnExactBrokenValue': WHATEVER THE INPUT: true; the input reads as it did. -/
def fnExactBrokenValueSpec : ChangeSpec := { name := "fnExactBrokenValue", fn := fun _ => fun
  | [] => { results := [.lit (.bool true)], args := [] }
  | _ => none }
def fnExactBrokenValueRow : OpenClaim := { program := "ytiojckpopgpacaa", sum := "bd876cb2b388f20a256776217cdf3392842c4b7b179c9e73a060282ae741a105", func := "loop.example/g00591/laws.FnExactBrokenValue", spec := "fnExactBrokenValue", apart := false }
def FnExactBrokenValueSaid : Prop := fnExactBrokenValueRow.holds Try.pinned (OpenSpec.ofChange fnExactBrokenValueSpec)

/-- ITS FALSE NEIGHBOUR: 'it returns false'. Refute it at one input. -/
def fnExactBrokenValueWrong : ChangeSpec := { name := "fnExactBrokenValue", fn := fun _ => fun
  | [] => { results := [.lit (.bool false)], args := [] }
  | _ => none }
def FnExactBrokenValueWrongFalsely : Prop := fnExactBrokenValueRow.holds Try.pinned (OpenSpec.ofChange fnExactBrokenValueWrong)

/-- 'laws.FnExactAddInts': WHATEVER THE INPUT: true; the input reads as it did. -/
def fnExactAddIntsSpec : ChangeSpec := { name := "fnExactAddInts", fn := fun _ => fun
  | [d1, d2] => { results := [.lit (.bool true)], args := [d1, d2] }
  | _ => none }
def fnExactAddIntsRow : OpenClaim := { program := "ytiojckpopgpacaa", sum := "bd876cb2b388f20a256776217cdf3392842c4b7b179c9e73a060282ae741a105", func := "loop.example/g00591/laws.FnExactAddInts", spec := "fnExactAddInts", unfollowed := true, recurses := true, apart := false }
def FnExactAddIntsSaid : Prop := fnExactAddIntsRow.holds Try.pinned (OpenSpec.ofChange fnExactAddIntsSpec)

/-- ITS FALSE NEIGHBOUR: 'it returns false'. Refute it at one input. -/
def fnExactAddIntsWrong : ChangeSpec := { name := "fnExactAddInts", fn := fun _ => fun
  | [d1, d2] => { results := [.lit (.bool false)], args := [d1, d2] }
  | _ => none }
def FnExactAddIntsWrongFalsely : Prop := fnExactAddIntsRow.holds Try.pinned (OpenSpec.ofChange fnExactAddIntsWrong)

/-- 'laws.FnExactIsNumber': WHATEVER THE INPUT: true; the input reads as it did. -/
def fnExactIsNumberSpec : ChangeSpec := { name := "fnExactIsNumber", fn := fun _ => fun
  | [d1, d2] => { results := [.lit (.bool true)], args := [d1, d2] }
  | _ => none }
def fnExactIsNumberRow : OpenClaim := { program := "ytiojckpopgpacaa", sum := "bd876cb2b388f20a256776217cdf3392842c4b7b179c9e73a060282ae741a105", func := "loop.example/g00591/laws.FnExactIsNumber", spec := "fnExactIsNumber", apart := false }
def FnExactIsNumberSaid : Prop := fnExactIsNumberRow.holds Try.pinned (OpenSpec.ofChange fnExactIsNumberSpec)

/-- ITS FALSE NEIGHBOUR: 'it returns false'. Refute it at one input. -/
def fnExactIsNumberWrong : ChangeSpec := { name := "fnExactIsNumber", fn := fun _ => fun
  | [d1, d2] => { results := [.lit (.bool false)], args := [d1, d2] }
  | _ => none }
def FnExactIsNumberWrongFalsely : Prop := fnExactIsNumberRow.holds Try.pinned (OpenSpec.ofChange fnExactIsNumberWrong)

/-- 'laws.FnExactAreValues': WHATEVER THE INPUT: true; the input reads as it did. -/
def fnExactAreValuesSpec : ChangeSpec := { name := "fnExactAreValues", fn := fun _ => fun
  | [d1, d2] => { results := [.lit (.bool true)], args := [d1, d2] }
  | _ => none }
def fnExactAreValuesRow : OpenClaim := { program := "ytiojckpopgpacaa", sum := "bd876cb2b388f20a256776217cdf3392842c4b7b179c9e73a060282ae741a105", func := "loop.example/g00591/laws.FnExactAreValues", spec := "fnExactAreValues", apart := false }
def FnExactAreValuesSaid : Prop := fnExactAreValuesRow.holds Try.pinned (OpenSpec.ofChange fnExactAreValuesSpec)

/-- ITS FALSE NEIGHBOUR: 'it returns false'. Refute it at one input. -/
def fnExactAreValuesWrong : ChangeSpec := { name := "fnExactAreValues", fn := fun _ => fun
  | [d1, d2] => { results := [.lit (.bool false)], args := [d1, d2] }
  | _ => none }
def FnExactAreValuesWrongFalsely : Prop := fnExactAreValuesRow.holds Try.pinned (OpenSpec.ofChange fnExactAreValuesWrong)

/-- 'laws.FnExactEqualValues': WHATEVER THE INPUT: true; the input reads as it did. -/
def fnExactEqualValuesSpec : ChangeSpec := { name := "fnExactEqualValues", fn := fun _ => fun
  | [d1, d2] => { results := [.lit (.bool true)], args := [d1, d2] }
  | _ => none }
def fnExactEqualValuesRow : OpenClaim := { program := "ytiojckpopgpacaa", sum := "bd876cb2b388f20a256776217cdf3392842c4b7b179c9e73a060282ae741a105", func := "loop.example/g00591/laws.FnExactEqualValues", spec := "fnExactEqualValues", apart := false }
def FnExactEqualValuesSaid : Prop := fnExactEqualValuesRow.holds Try.pinned (OpenSpec.ofChange fnExactEqualValuesSpec)

/-- ITS FALSE NEIGHBOUR: 'it returns false'. Refute it at one input. -/
def fnExactEqualValuesWrong : ChangeSpec := { name := "fnExactEqualValues", fn := fun _ => fun
  | [d1, d2] => { results := [.lit (.bool false)], args := [d1, d2] }
  | _ => none }
def FnExactEqualValuesWrongFalsely : Prop := fnExactEqualValuesRow.holds Try.pinned (OpenSpec.ofChange fnExactEqualValuesWrong)

/- THE SECOND FORM. 'bulk': how many values and letters a reading holds, each counted each time it is reached (what is shared counts as often as it is met; a slice's spare places count too). A statement '..UptoSaid' is the law's where the arguments, and the package variables that the reading takes, are together of bulk at most 1048576: NARROWER than '..Said'. Prove '..Said' where nothing that the law and all that it calls make is longer than what came in: it says more and counts as full. Else prove '..UptoSaid'. A law counts once. -/
mutual
def uptoBulk {H : Type} : DataW H → Nat
  | .lit (.string bytes) => bytes.length + 1
  | .lit _ => 1
  | .nil => 1
  | .ptr d => uptoBulk d + 1
  | .slice elems spare => uptoBulkAll elems + uptoBulkAll spare + 1
  | .agg parts => uptoBulkAll parts + 1
  | .iface _ d => uptoBulk d + 1
  | .map entries => uptoBulkEntries entries + 1
  | .held _ => 1
def uptoBulkAll {H : Type} : List (DataW H) → Nat
  | [] => 0
  | d :: r => uptoBulk d + uptoBulkAll r
def uptoBulkEntries {H : Type} : List (Lit × DataW H) → Nat
  | [] => 0
  | x :: r => uptoBulkEntry x + uptoBulkEntries r
def uptoBulkEntry {H : Type} : Lit × DataW H → Nat
  | (.string bytes, d) => bytes.length + uptoBulk d + 1
  | (_, d) => uptoBulk d + 1
 end
def uptoSmall : (H : Type) → List (DataW H) → Bool := fun _ ds => decide (uptoBulkAll ds ≤ 1048576)
def OpenSpec.upto (s : _root_.Go.ChangeSpec) : _root_.Go.OpenSpec := { _root_.Go.OpenSpec.ofChange s with cond := some uptoSmall }

/-- 'laws.FnValues', WHERE WHAT IT READS IS OF BULK AT MOST 1048576: true; the input reads as it did. -/
def fnValuesUptoRow : OpenClaim := { program := "ytiojckpopgpacaa", sum := "bd876cb2b388f20a256776217cdf3392842c4b7b179c9e73a060282ae741a105", func := "loop.example/g00591/laws.FnValues", spec := "fnValues", unfollowed := true, recurses := true, apart := false, narrowed := true }
def FnValuesUptoSaid : Prop := fnValuesUptoRow.holds Try.pinned (OpenSpec.upto fnValuesSpec)

/-- 'laws.FnExactIntValue', WHERE WHAT IT READS IS OF BULK AT MOST 1048576: true; the input reads as it did. -/
def fnExactIntValueUptoRow : OpenClaim := { program := "ytiojckpopgpacaa", sum := "bd876cb2b388f20a256776217cdf3392842c4b7b179c9e73a060282ae741a105", func := "loop.example/g00591/laws.FnExactIntValue", spec := "fnExactIntValue", apart := false, narrowed := true }
def FnExactIntValueUptoSaid : Prop := fnExactIntValueUptoRow.holds Try.pinned (OpenSpec.upto fnExactIntValueSpec)

/-- 'laws.FnExactRefValue', WHERE WHAT IT READS IS OF BULK AT MOST 1048576: true; the input reads as it did. -/
def fnExactRefValueUptoRow : OpenClaim := { program := "ytiojckpopgpacaa", sum := "bd876cb2b388f20a256776217cdf3392842c4b7b179c9e73a060282ae741a105", func := "loop.example/g00591/laws.FnExactRefValue", spec := "fnExactRefValue", apart := false, narrowed := true }
def FnExactRefValueUptoSaid : Prop := fnExactRefValueUptoRow.holds Try.pinned (OpenSpec.upto fnExactRefValueSpec)

/-- 'laws.FnExactBrokenValue', WHERE WHAT IT READS IS OF BULK AT MOST 1048576: true; the input reads as it did. -/
def fnExactBrokenValueUptoRow : OpenClaim := { program := "ytiojckpopgpacaa", sum := "bd876cb2b388f20a256776217cdf3392842c4b7b179c9e73a060282ae741a105", func := "loop.example/g00591/laws.FnExactBrokenValue", spec := "fnExactBrokenValue", apart := false, narrowed := true }
def FnExactBrokenValueUptoSaid : Prop := fnExactBrokenValueUptoRow.holds Try.pinned (OpenSpec.upto fnExactBrokenValueSpec)

/-- 'laws.FnExactAddInts', WHERE WHAT IT READS IS OF BULK AT MOST 1048576: true; the input reads as it did. -/
def fnExactAddIntsUptoRow : OpenClaim := { program := "ytiojckpopgpacaa", sum := "bd876cb2b388f20a256776217cdf3392842c4b7b179c9e73a060282ae741a105", func := "loop.example/g00591/laws.FnExactAddInts", spec := "fnExactAddInts", unfollowed := true, recurses := true, apart := false, narrowed := true }
def FnExactAddIntsUptoSaid : Prop := fnExactAddIntsUptoRow.holds Try.pinned (OpenSpec.upto fnExactAddIntsSpec)

/-- 'laws.FnExactIsNumber', WHERE WHAT IT READS IS OF BULK AT MOST 1048576: true; the input reads as it did. -/
def fnExactIsNumberUptoRow : OpenClaim := { program := "ytiojckpopgpacaa", sum := "bd876cb2b388f20a256776217cdf3392842c4b7b179c9e73a060282ae741a105", func := "loop.example/g00591/laws.FnExactIsNumber", spec := "fnExactIsNumber", apart := false, narrowed := true }
def FnExactIsNumberUptoSaid : Prop := fnExactIsNumberUptoRow.holds Try.pinned (OpenSpec.upto fnExactIsNumberSpec)

/-- 'laws.FnExactAreValues', WHERE WHAT IT READS IS OF BULK AT MOST 1048576: true; the input reads as it did. -/
def fnExactAreValuesUptoRow : OpenClaim := { program := "ytiojckpopgpacaa", sum := "bd876cb2b388f20a256776217cdf3392842c4b7b179c9e73a060282ae741a105", func := "loop.example/g00591/laws.FnExactAreValues", spec := "fnExactAreValues", apart := false, narrowed := true }
def FnExactAreValuesUptoSaid : Prop := fnExactAreValuesUptoRow.holds Try.pinned (OpenSpec.upto fnExactAreValuesSpec)

/-- 'laws.FnExactEqualValues', WHERE WHAT IT READS IS OF BULK AT MOST 1048576: true; the input reads as it did. -/
def fnExactEqualValuesUptoRow : OpenClaim := { program := "ytiojckpopgpacaa", sum := "bd876cb2b388f20a256776217cdf3392842c4b7b179c9e73a060282ae741a105", func := "loop.example/g00591/laws.FnExactEqualValues", spec := "fnExactEqualValues", apart := false, narrowed := true }
def FnExactEqualValuesUptoSaid : Prop := fnExactEqualValuesUptoRow.holds Try.pinned (OpenSpec.upto fnExactEqualValuesSpec)

end Rows
end Go.Proofs.Ytiojckpopgpacaa
