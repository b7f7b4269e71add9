/-
  No cell of these rows narrows 'for every input' (looked for: loops, veiled, ifaces, maps, wideKeys, modest, calm, conditions, laid).
  DERIVED. THE GIVEN ROWS OF THIS SEAT. 7 by the template 'for every input the law returns true; each argument reads behind the call as it read before'; 0 by the template 'total and deterministic' (their statements: YtchofnligbgigaaTotals.lean).
  GIVEN WITH THE SEED: the statements are not yours to turn. If you find one false, say at which input.
  Laid BY PROGRAM, IN A SANDBOX (cutbox-rows.mjs): the forced cells as the released guide's own fill.sh prints them over the translation 5fb482fc88c131b7… (all of the seat's roots in one cut). By AI agents, Wed Nov 11 2026. No macro, syntax, notation, axiom, sorry.
-/
import Derived.Test.YtchofnligbgigaaChecked
import GoSem.Claim
import GoSem.ClaimJoined
import GoSem.ClaimMapViews
import Derived.JoinedTies
import Derived.KernelRfl
namespace Go.Proofs.Ytchofnligbgigaa
/- THE CELL 'sum', in the pinned program and in every row, IS THE sha256 OF THE DUMP (.gsa) THAT YtchofnligbgigaaProg.lean LOADS. Nothing in Lean hashes anything: it is a label: what it is worth is what the hold of that sum in a sandbox is worth. -/
noncomputable def Try.pinned : Pinned := { name := "ytchofnligbgigaa", sum := "5fb482fc88c131b7f0527f634b565366f73f3db04d22ac68085051213496a2e5", checked := Try.checked }
namespace Rows
def none {H : Type} : Left H := { results := [], args := [] }

/-- 'laws.FnMessages': WHATEVER THE INPUT: true; the input reads as it did. -/
def fnMessagesSpec : ChangeSpec := { name := "fnMessages", fn := fun _ => fun
  | [d] => { results := [.lit (.bool true)], args := [d] }
  | _ => none }
def fnMessagesRow : OpenClaim := { program := "ytchofnligbgigaa", sum := "5fb482fc88c131b7f0527f634b565366f73f3db04d22ac68085051213496a2e5", func := "loop.example/g00591/laws.FnMessages", spec := "fnMessages", unfollowed := true, recurses := true, apart := false }
def FnMessagesSaid : Prop := fnMessagesRow.holds Try.pinned (OpenSpec.ofChange fnMessagesSpec)

/-- ITS FALSE NEIGHBOUR: 'it returns false'. Refute it at one input. -/
def fnMessagesWrong : ChangeSpec := { name := "fnMessages", fn := fun _ => fun
  | [d] => { results := [.lit (.bool false)], args := [d] }
  | _ => none }
def FnMessagesWrongFalsely : Prop := fnMessagesRow.holds Try.pinned (OpenSpec.ofChange fnMessagesWrong)

/-- 'laws.FnExactIsWire': WHATEVER THE INPUT: true; the input reads as it did. -/
def fnExactIsWireSpec : ChangeSpec := { name := "fnExactIsWire", fn := fun _ => fun
  | [d] => { results := [.lit (.bool true)], args := [d] }
  | _ => none }
def fnExactIsWireRow : OpenClaim := { program := "ytchofnligbgigaa", sum := "5fb482fc88c131b7f0527f634b565366f73f3db04d22ac68085051213496a2e5", func := "loop.example/g00591/laws.FnExactIsWire", spec := "fnExactIsWire", apart := false }
def FnExactIsWireSaid : Prop := fnExactIsWireRow.holds Try.pinned (OpenSpec.ofChange fnExactIsWireSpec)

/-- ITS FALSE NEIGHBOUR: 'it returns false'. Refute it at one input. -/
def fnExactIsWireWrong : ChangeSpec := { name := "fnExactIsWire", fn := fun _ => fun
  | [d] => { results := [.lit (.bool false)], args := [d] }
  | _ => none }
def FnExactIsWireWrongFalsely : Prop := fnExactIsWireRow.holds Try.pinned (OpenSpec.ofChange fnExactIsWireWrong)

/-- 'laws.FnExactIsMessage': WHATEVER THE INPUT: true; the input reads as it did. -/
def fnExactIsMessageSpec : ChangeSpec := { name := "fnExactIsMessage", fn := fun _ => fun
  | [d] => { results := [.lit (.bool true)], args := [d] }
  | _ => none }
def fnExactIsMessageRow : OpenClaim := { program := "ytchofnligbgigaa", sum := "5fb482fc88c131b7f0527f634b565366f73f3db04d22ac68085051213496a2e5", func := "loop.example/g00591/laws.FnExactIsMessage", spec := "fnExactIsMessage", unfollowed := true, recurses := true, apart := false }
def FnExactIsMessageSaid : Prop := fnExactIsMessageRow.holds Try.pinned (OpenSpec.ofChange fnExactIsMessageSpec)

/-- ITS FALSE NEIGHBOUR: 'it returns false'. Refute it at one input. -/
def fnExactIsMessageWrong : ChangeSpec := { name := "fnExactIsMessage", fn := fun _ => fun
  | [d] => { results := [.lit (.bool false)], args := [d] }
  | _ => none }
def FnExactIsMessageWrongFalsely : Prop := fnExactIsMessageRow.holds Try.pinned (OpenSpec.ofChange fnExactIsMessageWrong)

/-- 'laws.FnExactMessageName': WHATEVER THE INPUT: true; the input reads as it did. -/
def fnExactMessageNameSpec : ChangeSpec := { name := "fnExactMessageName", fn := fun _ => fun
  | [d] => { results := [.lit (.bool true)], args := [d] }
  | _ => none }
def fnExactMessageNameRow : OpenClaim := { program := "ytchofnligbgigaa", sum := "5fb482fc88c131b7f0527f634b565366f73f3db04d22ac68085051213496a2e5", func := "loop.example/g00591/laws.FnExactMessageName", spec := "fnExactMessageName", apart := false }
def FnExactMessageNameSaid : Prop := fnExactMessageNameRow.holds Try.pinned (OpenSpec.ofChange fnExactMessageNameSpec)

/-- ITS FALSE NEIGHBOUR: 'it returns false'. Refute it at one input. -/
def fnExactMessageNameWrong : ChangeSpec := { name := "fnExactMessageName", fn := fun _ => fun
  | [d] => { results := [.lit (.bool false)], args := [d] }
  | _ => none }
def FnExactMessageNameWrongFalsely : Prop := fnExactMessageNameRow.holds Try.pinned (OpenSpec.ofChange fnExactMessageNameWrong)

/-- 'laws.FnExactEncodeMessage': WHATEVER THE INPUT: true; the input reads as it did. -/
def fnExactEncodeMessageSpec : ChangeSpec := { name := "fnExactEncodeMessage", fn := fun _ => fun
  | [d] => { results := [.lit (.bool true)], args := [d] }
  | _ => none }
def fnExactEncodeMessageRow : OpenClaim := { program := "ytchofnligbgigaa", sum := "5fb482fc88c131b7f0527f634b565366f73f3db04d22ac68085051213496a2e5", func := "loop.example/g00591/laws.FnExactEncodeMessage", spec := "fnExactEncodeMessage", unfollowed := true, recurses := true, apart := false }
def FnExactEncodeMessageSaid : Prop := fnExactEncodeMessageRow.holds Try.pinned (OpenSpec.ofChange fnExactEncodeMessageSpec)

/-- ITS FALSE NEIGHBOUR: 'it returns false'. Refute it at one input. -/
def fnExactEncodeMessageWrong : ChangeSpec := { name := "fnExactEncodeMessage", fn := fun _ => fun
  | [d] => { results := [.lit (.bool false)], args := [d] }
  | _ => none }
def FnExactEncodeMessageWrongFalsely : Prop := fnExactEncodeMessageRow.holds Try.pinned (OpenSpec.ofChange fnExactEncodeMessageWrong)

/-- 'laws.FnExactDecodeMessage': WHATEVER THE INPUT: true; the input reads as it did. -/
def fnExactDecodeMessageSpec : ChangeSpec := { name := "fnExactDecodeMessage", fn := fun _ => fun
  | [d] => { results := [.lit (.bool true)], args := [d] }
  | _ => none }
def fnExactDecodeMessageRow : OpenClaim := { program := "ytchofnligbgigaa", sum := "5fb482fc88c131b7f0527f634b565366f73f3db04d22ac68085051213496a2e5", func := "loop.example/g00591/laws.FnExactDecodeMessage", spec := "fnExactDecodeMessage", unfollowed := true, recurses := true, apart := false }
def FnExactDecodeMessageSaid : Prop := fnExactDecodeMessageRow.holds Try.pinned (OpenSpec.ofChange fnExactDecodeMessageSpec)

/-- ITS FALSE NEIGHBOUR: 'it returns false'. Refute it at one input. -/
def fnExactDecodeMessageWrong : ChangeSpec := { name := "fnExactDecodeMessage", fn := fun _ => fun
  | [d] => { results := [.lit (.bool false)], args := [d] }
  | _ => none }
def FnExactDecodeMessageWrongFalsely : Prop := fnExactDecodeMessageRow.holds Try.pinned (OpenSpec.ofChange fnExactDecodeMessageWrong)

/-- 'laws.FnExactEqualMessages': WHATEVER THE INPUT: true; the input reads as it did. -/
def fnExactEqualMessagesSpec : ChangeSpec := { name := "fnExactEqualMessages", fn := fun _ => fun
  | [d1, d2] => { results := [.lit (.bool true)], args := [d1, d2] }
  | _ => none }
def fnExactEqualMessagesRow : OpenClaim := { program := "ytchofnligbgigaa", sum := "5fb482fc88c131b7f0527f634b565366f73f3db04d22ac68085051213496a2e5", func := "loop.example/g00591/laws.FnExactEqualMessages", spec := "fnExactEqualMessages", apart := false }
def FnExactEqualMessagesSaid : Prop := fnExactEqualMessagesRow.holds Try.pinned (OpenSpec.ofChange fnExactEqualMessagesSpec)

/-- ITS FALSE NEIGHBOUR: 'it returns false'. Refute it at one input. -/
def fnExactEqualMessagesWrong : ChangeSpec := { name := "fnExactEqualMessages", fn := fun _ => fun
  | [d1, d2] => { results := [.lit (.bool false)], args := [d1, d2] }
  | _ => none }
def FnExactEqualMessagesWrongFalsely : Prop := fnExactEqualMessagesRow.holds Try.pinned (OpenSpec.ofChange fnExactEqualMessagesWrong)

/- THE SECOND FORM. 'bulk': how many values and letters a reading holds, each counted each time it is reached (what is shared counts as often as it is met; a slice's spare places count too). A statement '..UptoSaid' is the law's where the arguments, and the package variables that the reading takes, are together of bulk at most 1048576: NARROWER than '..Said'. Prove '..Said' where nothing that the law and all that it calls make is longer than what came in: it says more and counts as full. Else prove '..UptoSaid'. A law counts once. -/
mutual
def uptoBulk {H : Type} : DataW H → Nat
  | .lit (.string bytes) => bytes.length + 1
  | .lit _ => 1
  | .nil => 1
  | .ptr d => uptoBulk d + 1
  | .slice elems spare => uptoBulkAll elems + uptoBulkAll spare + 1
  | .agg parts => uptoBulkAll parts + 1
  | .iface _ d => uptoBulk d + 1
  | .map entries => uptoBulkEntries entries + 1
  | .held _ => 1
def uptoBulkAll {H : Type} : List (DataW H) → Nat
  | [] => 0
  | d :: r => uptoBulk d + uptoBulkAll r
def uptoBulkEntries {H : Type} : List (Lit × DataW H) → Nat
  | [] => 0
  | x :: r => uptoBulkEntry x + uptoBulkEntries r
def uptoBulkEntry {H : Type} : Lit × DataW H → Nat
  | (.string bytes, d) => bytes.length + uptoBulk d + 1
  | (_, d) => uptoBulk d + 1
 end
def uptoSmall : (H : Type) → List (DataW H) → Bool := fun _ ds => decide (uptoBulkAll ds ≤ 1048576)
def OpenSpec.upto (s : _root_.Go.ChangeSpec) : _root_.Go.OpenSpec := { _root_.Go.OpenSpec.ofChange s with cond := some uptoSmall }

/-- 'laws.FnMessages', WHERE WHAT IT READS IS OF BULK AT MOST 1048576: true; the input reads as it did. -/
def fnMessagesUptoRow : OpenClaim := { program := "ytchofnligbgigaa", sum := "5fb482fc88c131b7f0527f634b565366f73f3db04d22ac68085051213496a2e5", func := "loop.example/g00591/laws.FnMessages", spec := "fnMessages", unfollowed := true, recurses := true, apart := false, narrowed := true }
def FnMessagesUptoSaid : Prop := fnMessagesUptoRow.holds Try.pinned (OpenSpec.upto fnMessagesSpec)

/-- 'laws.FnExactIsWire', WHERE WHAT IT READS IS OF BULK AT MOST 1048576: true; the input reads as it did. -/
def fnExactIsWireUptoRow : OpenClaim := { program := "ytchofnligbgigaa", sum := "5fb482fc88c131b7f0527f634b565366f73f3db04d22ac68085051213496a2e5", func := "loop.example/g00591/laws.FnExactIsWire", spec := "fnExactIsWire", apart := false, narrowed := true }
def FnExactIsWireUptoSaid : Prop := fnExactIsWireUptoRow.holds Try.pinned (OpenSpec.upto fnExactIsWireSpec)

/-- 'laws.FnExactIsMessage', WHERE WHAT IT READS IS OF BULK AT MOST 1048576: true; the input reads as it did. -/
def fnExactIsMessageUptoRow : OpenClaim := { program := "ytchofnligbgigaa", sum := "5fb482fc88c131b7f0527f634b565366f73f3db04d22ac68085051213496a2e5", func := "loop.example/g00591/laws.FnExactIsMessage", spec := "fnExactIsMessage", unfollowed := true, recurses := true, apart := false, narrowed := true }
def FnExactIsMessageUptoSaid : Prop := fnExactIsMessageUptoRow.holds Try.pinned (OpenSpec.upto fnExactIsMessageSpec)

/-- 'laws.FnExactMessageName', WHERE WHAT IT READS IS OF BULK AT MOST 1048576: true; the input reads as it did. -/
def fnExactMessageNameUptoRow : OpenClaim := { program := "ytchofnligbgigaa", sum := "5fb482fc88c131b7f0527f634b565366f73f3db04d22ac68085051213496a2e5", func := "loop.example/g00591/laws.FnExactMessageName", spec := "fnExactMessageName", apart := false, narrowed := true }
def FnExactMessageNameUptoSaid : Prop := fnExactMessageNameUptoRow.holds Try.pinned (OpenSpec.upto fnExactMessageNameSpec)

/-- 'laws.FnExactEncodeMessage', WHERE WHAT IT READS IS OF BULK AT MOST 1048576: true; the input reads as it did. -/
def fnExactEncodeMessageUptoRow : OpenClaim := { program := "ytchofnligbgigaa", sum := "5fb482fc88c131b7f0527f634b565366f73f3db04d22ac68085051213496a2e5", func := "loop.example/g00591/laws.FnExactEncodeMessage", spec := "fnExactEncodeMessage", unfollowed := true, recurses := true, apart := false, narrowed := true }
def FnExactEncodeMessageUptoSaid : Prop := fnExactEncodeMessageUptoRow.holds Try.pinned (OpenSpec.upto fnExactEncodeMessageSpec)

/-- 'laws.FnExactDecodeMessage', WHERE WHAT IT READS IS OF BULK AT MOST 1048576: true; the input reads as it did. -/
def fnExactDecodeMessageUptoRow : OpenClaim := { program := "ytchofnligbgigaa", sum := "5fb482fc88c131b7f0527f634b565366f73f3db04d22ac68085051213496a2e5", func := "loop.example/g00591/laws.FnExactDecodeMessage", spec := "fnExactDecodeMessage", unfollowed := true, recurses := true, apart := false, narrowed := true }
def FnExactDecodeMessageUptoSaid : Prop := fnExactDecodeMessageUptoRow.holds Try.pinned (OpenSpec.upto fnExactDecodeMessageSpec)

/-- 'laws.FnExactEqualMessages', WHERE WHAT IT READS IS OF BULK AT MOST 1048576: true; the input reads as it did. -/
def fnExactEqualMessagesUptoRow : OpenClaim := { program := "ytchofnligbgigaa", sum := "5fb482fc88c131b7f0527f634b565366f73f3db04d22ac68085051213496a2e5", func := "loop.example/g00591/laws.FnExactEqualMessages", spec := "fnExactEqualMessages", apart := false, narrowed := true }
def FnExactEqualMessagesUptoSaid : Prop := fnExactEqualMessagesUptoRow.holds Try.pinned (OpenSpec.upto fnExactEqualMessagesSpec)

end Rows
end Go.Proofs.Ytchofnligbgigaa
