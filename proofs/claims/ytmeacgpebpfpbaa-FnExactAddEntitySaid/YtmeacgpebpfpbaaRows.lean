/-
  No cell of these rows narrows 'for every input' (looked for: loops, veiled, ifaces, maps, wideKeys, modest, calm, conditions, laid).
  DERIVED. THE GIVEN ROWS OF THIS SEAT. 7 by the template 'for every input the law returns true; each argument reads behind the call as it read before'; 0 by the template 'total and deterministic' (their statements: YtmeacgpebpfpbaaTotals.lean).
  GIVEN WITH THE SEED: the statements are not yours to turn. If you find one false, say at which input.
  Laid BY PROGRAM, IN A SANDBOX (cutbox-rows.mjs): the forced cells as the released guide's own fill.sh prints them over the translation 60eba8e4f1235273… (all of the seat's roots in one cut). By AI agents, Wed Nov 11 2026. No macro, syntax, notation, axiom, sorry.
-/
import Derived.Test.YtmeacgpebpfpbaaChecked
import GoSem.Claim
import GoSem.ClaimJoined
import GoSem.ClaimMapViews
import Derived.JoinedTies
import Derived.KernelRfl
namespace Go.Proofs.Ytmeacgpebpfpbaa
/- THE CELL 'sum', in the pinned program and in every row, IS THE sha256 OF THE DUMP (.gsa) THAT YtmeacgpebpfpbaaProg.lean LOADS. Nothing in Lean hashes anything: it is a label: what it is worth is what the hold of that sum in a sandbox is worth. -/
noncomputable def Try.pinned : Pinned := { name := "ytmeacgpebpfpbaa", sum := "60eba8e4f1235273fa7df1d638ce7a6d60351e6390488244a6927b4914a7e099", checked := Try.checked }
namespace Rows
def none {H : Type} : Left H := { results := [], args := [] }

/-- 'laws.FnVats': WHATEVER THE INPUT: true; the input reads as it did. -/
def fnVatsSpec : ChangeSpec := { name := "fnVats", fn := fun _ => fun
  | [d] => { results := [.lit (.bool true)], args := [d] }
  | _ => none }
def fnVatsRow : OpenClaim := { program := "ytmeacgpebpfpbaa", sum := "60eba8e4f1235273fa7df1d638ce7a6d60351e6390488244a6927b4914a7e099", func := "loop.example/g00591/laws.FnVats", spec := "fnVats", unfollowed := true, recurses := true, apart := false }
def FnVatsSaid : Prop := fnVatsRow.holds Try.pinned (OpenSpec.ofChange fnVatsSpec)

/-- ITS FALSE NEIGHBOUR: 'it returns false'. Refute it at one input. -/
def fnVatsWrong : ChangeSpec := { name := "fnVats", fn := fun _ => fun
  | [d] => { results := [.lit (.bool false)], args := [d] }
  | _ => none }
def FnVatsWrongFalsely : Prop := fnVatsRow.holds Try.pinned (OpenSpec.ofChange fnVatsWrong)

/-- 'laws.FnExactNewVat': WHATEVER THE INPUT: true; the input reads as it did. -/
def fnExactNewVatSpec : ChangeSpec := { name := "fnExactNewVat", fn := fun _ => fun
  | [d1, d2, d3] => { results := [.lit (.bool true)], args := [d1, d2, d3] }
  | _ => none }
def fnExactNewVatRow : OpenClaim := { program := "ytmeacgpebpfpbaa", sum := "60eba8e4f1235273fa7df1d638ce7a6d60351e6390488244a6927b4914a7e099", func := "loop.example/g00591/laws.FnExactNewVat", spec := "fnExactNewVat", unfollowed := true, recurses := true, apart := false }
def FnExactNewVatSaid : Prop := fnExactNewVatRow.holds Try.pinned (OpenSpec.ofChange fnExactNewVatSpec)

/-- ITS FALSE NEIGHBOUR: 'it returns false'. Refute it at one input. -/
def fnExactNewVatWrong : ChangeSpec := { name := "fnExactNewVat", fn := fun _ => fun
  | [d1, d2, d3] => { results := [.lit (.bool false)], args := [d1, d2, d3] }
  | _ => none }
def FnExactNewVatWrongFalsely : Prop := fnExactNewVatRow.holds Try.pinned (OpenSpec.ofChange fnExactNewVatWrong)

/-- 'laws.FnExactLinkTo': WHATEVER THE INPUT: true; the input reads as it did. -/
def fnExactLinkToSpec : ChangeSpec := { name := "fnExactLinkTo", fn := fun _ => fun
  | [d1, d2] => { results := [.lit (.bool true)], args := [d1, d2] }
  | _ => none }
def fnExactLinkToRow : OpenClaim := { program := "ytmeacgpebpfpbaa", sum := "60eba8e4f1235273fa7df1d638ce7a6d60351e6390488244a6927b4914a7e099", func := "loop.example/g00591/laws.FnExactLinkTo", spec := "fnExactLinkTo", unfollowed := true, recurses := true, apart := false }
def FnExactLinkToSaid : Prop := fnExactLinkToRow.holds Try.pinned (OpenSpec.ofChange fnExactLinkToSpec)

/-- ITS FALSE NEIGHBOUR: 'it returns false'. Refute it at one input. -/
def fnExactLinkToWrong : ChangeSpec := { name := "fnExactLinkTo", fn := fun _ => fun
  | [d1, d2] => { results := [.lit (.bool false)], args := [d1, d2] }
  | _ => none }
def FnExactLinkToWrongFalsely : Prop := fnExactLinkToRow.holds Try.pinned (OpenSpec.ofChange fnExactLinkToWrong)

/-- 'laws.FnExactIsUp': WHATEVER THE INPUT: true; the input reads as it did. -/
def fnExactIsUpSpec : ChangeSpec := { name := "fnExactIsUp", fn := fun _ => fun
  | [d1, d2] => { results := [.lit (.bool true)], args := [d1, d2] }
  | _ => none }
def fnExactIsUpRow : OpenClaim := { program := "ytmeacgpebpfpbaa", sum := "60eba8e4f1235273fa7df1d638ce7a6d60351e6390488244a6927b4914a7e099", func := "loop.example/g00591/laws.FnExactIsUp", spec := "fnExactIsUp", unfollowed := true, recurses := true, apart := false }
def FnExactIsUpSaid : Prop := fnExactIsUpRow.holds Try.pinned (OpenSpec.ofChange fnExactIsUpSpec)

/-- ITS FALSE NEIGHBOUR: 'it returns false'. Refute it at one input. -/
def fnExactIsUpWrong : ChangeSpec := { name := "fnExactIsUp", fn := fun _ => fun
  | [d1, d2] => { results := [.lit (.bool false)], args := [d1, d2] }
  | _ => none }
def FnExactIsUpWrongFalsely : Prop := fnExactIsUpRow.holds Try.pinned (OpenSpec.ofChange fnExactIsUpWrong)

/-- 'laws.FnExactLook': WHATEVER THE INPUT: true; the input reads as it did. -/
def fnExactLookSpec : ChangeSpec := { name := "fnExactLook", fn := fun _ => fun
  | [d1, d2] => { results := [.lit (.bool true)], args := [d1, d2] }
  | _ => none }
def fnExactLookRow : OpenClaim := { program := "ytmeacgpebpfpbaa", sum := "60eba8e4f1235273fa7df1d638ce7a6d60351e6390488244a6927b4914a7e099", func := "loop.example/g00591/laws.FnExactLook", spec := "fnExactLook", apart := false }
def FnExactLookSaid : Prop := fnExactLookRow.holds Try.pinned (OpenSpec.ofChange fnExactLookSpec)

/-- ITS FALSE NEIGHBOUR: 'it returns false'. Refute it at one input. -/
def fnExactLookWrong : ChangeSpec := { name := "fnExactLook", fn := fun _ => fun
  | [d1, d2] => { results := [.lit (.bool false)], args := [d1, d2] }
  | _ => none }
def FnExactLookWrongFalsely : Prop := fnExactLookRow.holds Try.pinned (OpenSpec.ofChange fnExactLookWrong)

/-- 'laws.FnExactAddEntity': WHATEVER THE INPUT: true; the input reads as it did. -/
def fnExactAddEntitySpec : ChangeSpec := { name := "fnExactAddEntity", fn := fun _ => fun
  | [d1, d2] => { results := [.lit (.bool true)], args := [d1, d2] }
  | _ => none }
def fnExactAddEntityRow : OpenClaim := { program := "ytmeacgpebpfpbaa", sum := "60eba8e4f1235273fa7df1d638ce7a6d60351e6390488244a6927b4914a7e099", func := "loop.example/g00591/laws.FnExactAddEntity", spec := "fnExactAddEntity", unfollowed := true, recurses := true, apart := false }
def FnExactAddEntitySaid : Prop := fnExactAddEntityRow.holds Try.pinned (OpenSpec.ofChange fnExactAddEntitySpec)

/-- ITS FALSE NEIGHBOUR: 'it returns false'. Refute it at one input. -/
def fnExactAddEntityWrong : ChangeSpec := { name := "fnExactAddEntity", fn := fun _ => fun
  | [d1, d2] => { results := [.lit (.bool false)], args := [d1, d2] }
  | _ => none }
def FnExactAddEntityWrongFalsely : Prop := fnExactAddEntityRow.holds Try.pinned (OpenSpec.ofChange fnExactAddEntityWrong)

/-- 'laws.FnExactEqualVats': WHATEVER THE INPUT: true; the input reads as it did. -/
def fnExactEqualVatsSpec : ChangeSpec := { name := "fnExactEqualVats", fn := fun _ => fun
  | [d1, d2] => { results := [.lit (.bool true)], args := [d1, d2] }
  | _ => none }
def fnExactEqualVatsRow : OpenClaim := { program := "ytmeacgpebpfpbaa", sum := "60eba8e4f1235273fa7df1d638ce7a6d60351e6390488244a6927b4914a7e099", func := "loop.example/g00591/laws.FnExactEqualVats", spec := "fnExactEqualVats", unfollowed := true, recurses := true, apart := false }
def FnExactEqualVatsSaid : Prop := fnExactEqualVatsRow.holds Try.pinned (OpenSpec.ofChange fnExactEqualVatsSpec)

/-- ITS FALSE NEIGHBOUR: 'it returns false'. Refute it at one input. -/
def fnExactEqualVatsWrong : ChangeSpec := { name := "fnExactEqualVats", fn := fun _ => fun
  | [d1, d2] => { results := [.lit (.bool false)], args := [d1, d2] }
  | _ => none }
def FnExactEqualVatsWrongFalsely : Prop := fnExactEqualVatsRow.holds Try.pinned (OpenSpec.ofChange fnExactEqualVatsWrong)

/- THE SECOND FORM. 'bulk': how many values and letters a reading holds, each counted each time it is reached (what is shared counts as often as it is met; a slice's spare places count too). A statement '..UptoSaid' is the law's where the arguments, and the package variables that the reading takes, are together of bulk at most 1048576: NARROWER than '..Said'. Prove '..Said' where nothing that the law and all that it calls make is longer than what came in: it says more and counts as full. Else prove '..UptoSaid'. A law counts once. -/
mutual
def uptoBulk {H : Type} : DataW H → Nat
  | .lit (.string bytes) => bytes.length + 1
  | .lit _ => 1
  | .nil => 1
  | .ptr d => uptoBulk d + 1
  | .slice elems spare => uptoBulkAll elems + uptoBulkAll spare + 1
  | .agg parts => uptoBulkAll parts + 1
  | .iface _ d => uptoBulk d + 1
  | .map entries => uptoBulkEntries entries + 1
  | .held _ => 1
def uptoBulkAll {H : Type} : List (DataW H) → Nat
  | [] => 0
  | d :: r => uptoBulk d + uptoBulkAll r
def uptoBulkEntries {H : Type} : List (Lit × DataW H) → Nat
  | [] => 0
  | x :: r => uptoBulkEntry x + uptoBulkEntries r
def uptoBulkEntry {H : Type} : Lit × DataW H → Nat
  | (.string bytes, d) => bytes.length + uptoBulk d + 1
  | (_, d) => uptoBulk d + 1
 end
def uptoSmall : (H : Type) → List (DataW H) → Bool := fun _ ds => decide (uptoBulkAll ds ≤ 1048576)
def OpenSpec.upto (s : _root_.Go.ChangeSpec) : _root_.Go.OpenSpec := { _root_.Go.OpenSpec.ofChange s with cond := some uptoSmall }

/-- 'laws.FnVats', WHERE WHAT IT READS IS OF BULK AT MOST 1048576: true; the input reads as it did. -/
def fnVatsUptoRow : OpenClaim := { program := "ytmeacgpebpfpbaa", sum := "60eba8e4f1235273fa7df1d638ce7a6d60351e6390488244a6927b4914a7e099", func := "loop.example/g00591/laws.FnVats", spec := "fnVats", unfollowed := true, recurses := true, apart := false, narrowed := true }
def FnVatsUptoSaid : Prop := fnVatsUptoRow.holds Try.pinned (OpenSpec.upto fnVatsSpec)

/-- 'laws.FnExactNewVat', WHERE WHAT IT READS IS OF BULK AT MOST 1048576: true; the input reads as it did. -/
def fnExactNewVatUptoRow : OpenClaim := { program := "ytmeacgpebpfpbaa", sum := "60eba8e4f1235273fa7df1d638ce7a6d60351e6390488244a6927b4914a7e099", func := "loop.example/g00591/laws.FnExactNewVat", spec := "fnExactNewVat", unfollowed := true, recurses := true, apart := false, narrowed := true }
def FnExactNewVatUptoSaid : Prop := fnExactNewVatUptoRow.holds Try.pinned (OpenSpec.upto fnExactNewVatSpec)

/-- 'laws.FnExactLinkTo', WHERE WHAT IT READS IS OF BULK AT MOST 1048576: true; the input reads as it did. -/
def fnExactLinkToUptoRow : OpenClaim := { program := "ytmeacgpebpfpbaa", sum := "60eba8e4f1235273fa7df1d638ce7a6d60351e6390488244a6927b4914a7e099", func := "loop.example/g00591/laws.FnExactLinkTo", spec := "fnExactLinkTo", unfollowed := true, recurses := true, apart := false, narrowed := true }
def FnExactLinkToUptoSaid : Prop := fnExactLinkToUptoRow.holds Try.pinned (OpenSpec.upto fnExactLinkToSpec)

/-- 'laws.FnExactIsUp', WHERE WHAT IT READS IS OF BULK AT MOST 1048576: true; the input reads as it did. -/
def fnExactIsUpUptoRow : OpenClaim := { program := "ytmeacgpebpfpbaa", sum := "60eba8e4f1235273fa7df1d638ce7a6d60351e6390488244a6927b4914a7e099", func := "loop.example/g00591/laws.FnExactIsUp", spec := "fnExactIsUp", unfollowed := true, recurses := true, apart := false, narrowed := true }
def FnExactIsUpUptoSaid : Prop := fnExactIsUpUptoRow.holds Try.pinned (OpenSpec.upto fnExactIsUpSpec)

/-- 'laws.FnExactLook', WHERE WHAT IT READS IS OF BULK AT MOST 1048576: true; the input reads as it did. -/
def fnExactLookUptoRow : OpenClaim := { program := "ytmeacgpebpfpbaa", sum := "60eba8e4f1235273fa7df1d638ce7a6d60351e6390488244a6927b4914a7e099", func := "loop.example/g00591/laws.FnExactLook", spec := "fnExactLook", apart := false, narrowed := true }
def FnExactLookUptoSaid : Prop := fnExactLookUptoRow.holds Try.pinned (OpenSpec.upto fnExactLookSpec)

/-- 'laws.FnExactAddEntity', WHERE WHAT IT READS IS OF BULK AT MOST 1048576: true; the input reads as it did. -/
def fnExactAddEntityUptoRow : OpenClaim := { program := "ytmeacgpebpfpbaa", sum := "60eba8e4f1235273fa7df1d638ce7a6d60351e6390488244a6927b4914a7e099", func := "loop.example/g00591/laws.FnExactAddEntity", spec := "fnExactAddEntity", unfollowed := true, recurses := true, apart := false, narrowed := true }
def FnExactAddEntityUptoSaid : Prop := fnExactAddEntityUptoRow.holds Try.pinned (OpenSpec.upto fnExactAddEntitySpec)

/-- 'laws.FnExactEqualVats', WHERE WHAT IT READS IS OF BULK AT MOST 1048576: true; the input reads as it did. -/
def fnExactEqualVatsUptoRow : OpenClaim := { program := "ytmeacgpebpfpbaa", sum := "60eba8e4f1235273fa7df1d638ce7a6d60351e6390488244a6927b4914a7e099", func := "loop.example/g00591/laws.FnExactEqualVats", spec := "fnExactEqualVats", unfollowed := true, recurses := true, apart := false, narrowed := true }
def FnExactEqualVatsUptoSaid : Prop := fnExactEqualVatsUptoRow.holds Try.pinned (OpenSpec.upto fnExactEqualVatsSpec)

end Rows
end Go.Proofs.Ytmeacgpebpfpbaa
