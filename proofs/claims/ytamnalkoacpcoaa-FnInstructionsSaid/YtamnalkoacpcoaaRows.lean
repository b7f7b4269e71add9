/-
  No cell of these rows narrows 'for every input' (looked for: loops, veiled, ifaces, maps, wideKeys, modest, calm, conditions, laid).
  DERIVED. THE GIVEN ROWS OF THIS SEAT. 7 by the template 'for every input the law returns true; each argument reads behind the call as it read before'; 0 by the template 'total and deterministic' (their statements: YtamnalkoacpcoaaTotals.lean).
  GIVEN WITH THE SEED: the statements are not yours to turn. If you find one false, say at which input.
  Laid BY PROGRAM, IN A SANDBOX (cutbox-rows.mjs): the forced cells as the released guide's own fill.sh prints them over the translation 2c88d9d2862df767… (all of the seat's roots in one cut). By AI agents, Wed Nov 11 2026. No macro, syntax, notation, axiom, sorry.
-/
import Derived.Test.YtamnalkoacpcoaaChecked
import GoSem.Claim
import GoSem.ClaimJoined
import GoSem.ClaimMapViews
import Derived.JoinedTies
import Derived.KernelRfl
namespace Go.Proofs.Ytamnalkoacpcoaa
/- THE CELL 'sum', in the pinned program and in every row, IS THE sha256 OF THE DUMP (.gsa) THAT YtamnalkoacpcoaaProg.lean LOADS. Nothing in Lean hashes anything: it is a label: what it is worth is what the hold of that sum in a sandbox is worth. -/
noncomputable def Try.pinned : Pinned := { name := "ytamnalkoacpcoaa", sum := "2c88d9d2862df76799b6ac08751e4e82ca46cb3c59ee5e806ed651ecc0c5f3be", checked := Try.checked }
namespace Rows
def none {H : Type} : Left H := { results := [], args := [] }

/-- 'laws.FnInstructions': WHATEVER THE INPUT: true; the input reads as it did. -/
def fnInstructionsSpec : ChangeSpec := { name := "fnInstructions", fn := fun _ => fun
  | [d] => { results := [.lit (.bool true)], args := [d] }
  | _ => none }
def fnInstructionsRow : OpenClaim := { program := "ytamnalkoacpcoaa", sum := "2c88d9d2862df76799b6ac08751e4e82ca46cb3c59ee5e806ed651ecc0c5f3be", func := "loop.example/g00591/laws.FnInstructions", spec := "fnInstructions", unfollowed := true, recurses := true, apart := false }
def FnInstructionsSaid : Prop := fnInstructionsRow.holds Try.pinned (OpenSpec.ofChange fnInstructionsSpec)

/-- ITS FALSE NEIGHBOUR: 'it returns false'. Refute it at one input. -/
def fnInstructionsWrong : ChangeSpec := { name := "fnInstructions", fn := fun _ => fun
  | [d] => { results := [.lit (.bool false)], args := [d] }
  | _ => none }
def FnInstructionsWrongFalsely : Prop := fnInstructionsRow.holds Try.pinned (OpenSpec.ofChange fnInstructionsWrong)

/-- 'laws.FnExactIsName': WHATEVER THE INPUT: true; the input reads as it did. -/
def fnExactIsNameSpec : ChangeSpec := { name := "fnExactIsName", fn := fun _ => fun
  | [d] => { results := [.lit (.bool true)], args := [d] }
  | _ => none }
def fnExactIsNameRow : OpenClaim := { program := "ytamnalkoacpcoaa", sum := "2c88d9d2862df76799b6ac08751e4e82ca46cb3c59ee5e806ed651ecc0c5f3be", func := "loop.example/g00591/laws.FnExactIsName", spec := "fnExactIsName", apart := false }
def FnExactIsNameSaid : Prop := fnExactIsNameRow.holds Try.pinned (OpenSpec.ofChange fnExactIsNameSpec)

/-- ITS FALSE NEIGHBOUR: 'it returns false'. Refute it at one input. -/
def fnExactIsNameWrong : ChangeSpec := { name := "fnExactIsName", fn := fun _ => fun
  | [d] => { results := [.lit (.bool false)], args := [d] }
  | _ => none }
def FnExactIsNameWrongFalsely : Prop := fnExactIsNameRow.holds Try.pinned (OpenSpec.ofChange fnExactIsNameWrong)

/-- 'laws.FnExactIsReg': WHATEVER THE INPUT: true; the input reads as it did. -/
def fnExactIsRegSpec : ChangeSpec := { name := "fnExactIsReg", fn := fun _ => fun
  | [d] => { results := [.lit (.bool true)], args := [d] }
  | _ => none }
def fnExactIsRegRow : OpenClaim := { program := "ytamnalkoacpcoaa", sum := "2c88d9d2862df76799b6ac08751e4e82ca46cb3c59ee5e806ed651ecc0c5f3be", func := "loop.example/g00591/laws.FnExactIsReg", spec := "fnExactIsReg", apart := false }
def FnExactIsRegSaid : Prop := fnExactIsRegRow.holds Try.pinned (OpenSpec.ofChange fnExactIsRegSpec)

/-- ITS FALSE NEIGHBOUR: 'it returns false'. Refute it at one input. -/
def fnExactIsRegWrong : ChangeSpec := { name := "fnExactIsReg", fn := fun _ => fun
  | [d] => { results := [.lit (.bool false)], args := [d] }
  | _ => none }
def FnExactIsRegWrongFalsely : Prop := fnExactIsRegRow.holds Try.pinned (OpenSpec.ofChange fnExactIsRegWrong)

/-- 'laws.FnExactIsInstr': WHATEVER THE INPUT: true; the input reads as it did. -/
def fnExactIsInstrSpec : ChangeSpec := { name := "fnExactIsInstr", fn := fun _ => fun
  | [d] => { results := [.lit (.bool true)], args := [d] }
  | _ => none }
def fnExactIsInstrRow : OpenClaim := { program := "ytamnalkoacpcoaa", sum := "2c88d9d2862df76799b6ac08751e4e82ca46cb3c59ee5e806ed651ecc0c5f3be", func := "loop.example/g00591/laws.FnExactIsInstr", spec := "fnExactIsInstr", unfollowed := true, recurses := true, apart := false }
def FnExactIsInstrSaid : Prop := fnExactIsInstrRow.holds Try.pinned (OpenSpec.ofChange fnExactIsInstrSpec)

/-- ITS FALSE NEIGHBOUR: 'it returns false'. Refute it at one input. -/
def fnExactIsInstrWrong : ChangeSpec := { name := "fnExactIsInstr", fn := fun _ => fun
  | [d] => { results := [.lit (.bool false)], args := [d] }
  | _ => none }
def FnExactIsInstrWrongFalsely : Prop := fnExactIsInstrRow.holds Try.pinned (OpenSpec.ofChange fnExactIsInstrWrong)

/-- 'laws.FnExactOpName': WHATEVER THE INPUT: true; the input reads as it did. -/
def fnExactOpNameSpec : ChangeSpec := { name := "fnExactOpName", fn := fun _ => fun
  | [d] => { results := [.lit (.bool true)], args := [d] }
  | _ => none }
def fnExactOpNameRow : OpenClaim := { program := "ytamnalkoacpcoaa", sum := "2c88d9d2862df76799b6ac08751e4e82ca46cb3c59ee5e806ed651ecc0c5f3be", func := "loop.example/g00591/laws.FnExactOpName", spec := "fnExactOpName", apart := false }
def FnExactOpNameSaid : Prop := fnExactOpNameRow.holds Try.pinned (OpenSpec.ofChange fnExactOpNameSpec)

/-- ITS FALSE NEIGHBOUR: 'it returns false'. Refute it at one input. -/
def fnExactOpNameWrong : ChangeSpec := { name := "fnExactOpName", fn := fun _ => fun
  | [d] => { results := [.lit (.bool false)], args := [d] }
  | _ => none }
def FnExactOpNameWrongFalsely : Prop := fnExactOpNameRow.holds Try.pinned (OpenSpec.ofChange fnExactOpNameWrong)

/-- 'laws.FnExactRegsOf': WHATEVER THE INPUT: true; the input reads as it did. -/
def fnExactRegsOfSpec : ChangeSpec := { name := "fnExactRegsOf", fn := fun _ => fun
  | [d] => { results := [.lit (.bool true)], args := [d] }
  | _ => none }
def fnExactRegsOfRow : OpenClaim := { program := "ytamnalkoacpcoaa", sum := "2c88d9d2862df76799b6ac08751e4e82ca46cb3c59ee5e806ed651ecc0c5f3be", func := "loop.example/g00591/laws.FnExactRegsOf", spec := "fnExactRegsOf", unfollowed := true, recurses := true, apart := false }
def FnExactRegsOfSaid : Prop := fnExactRegsOfRow.holds Try.pinned (OpenSpec.ofChange fnExactRegsOfSpec)

/-- ITS FALSE NEIGHBOUR: 'it returns false'. Refute it at one input. -/
def fnExactRegsOfWrong : ChangeSpec := { name := "fnExactRegsOf", fn := fun _ => fun
  | [d] => { results := [.lit (.bool false)], args := [d] }
  | _ => none }
def FnExactRegsOfWrongFalsely : Prop := fnExactRegsOfRow.holds Try.pinned (OpenSpec.ofChange fnExactRegsOfWrong)

/-- 'laws.FnExactTargetOf': WHATEVER THE INPUT: true; the input reads as it did. -/
def fnExactTargetOfSpec : ChangeSpec := { name := "fnExactTargetOf", fn := fun _ => fun
  | [d] => { results := [.lit (.bool true)], args := [d] }
  | _ => none }
def fnExactTargetOfRow : OpenClaim := { program := "ytamnalkoacpcoaa", sum := "2c88d9d2862df76799b6ac08751e4e82ca46cb3c59ee5e806ed651ecc0c5f3be", func := "loop.example/g00591/laws.FnExactTargetOf", spec := "fnExactTargetOf", apart := false }
def FnExactTargetOfSaid : Prop := fnExactTargetOfRow.holds Try.pinned (OpenSpec.ofChange fnExactTargetOfSpec)

/-- ITS FALSE NEIGHBOUR: 'it returns false'. Refute it at one input. -/
def fnExactTargetOfWrong : ChangeSpec := { name := "fnExactTargetOf", fn := fun _ => fun
  | [d] => { results := [.lit (.bool false)], args := [d] }
  | _ => none }
def FnExactTargetOfWrongFalsely : Prop := fnExactTargetOfRow.holds Try.pinned (OpenSpec.ofChange fnExactTargetOfWrong)

/- THE SECOND FORM. 'bulk': how many values and letters a reading holds, each counted each time it is reached (what is shared counts as often as it is met; a slice's spare places count too). A statement '..UptoSaid' is the law's where the arguments, and the package variables that the reading takes, are together of bulk at most 1048576: NARROWER than '..Said'. Prove '..Said' where nothing that the law and all that it calls make is longer than what came in: it says more and counts as full. Else prove '..UptoSaid'. A law counts once. -/
mutual
def uptoBulk {H : Type} : DataW H → Nat
  | .lit (.string bytes) => bytes.length + 1
  | .lit _ => 1
  | .nil => 1
  | .ptr d => uptoBulk d + 1
  | .slice elems spare => uptoBulkAll elems + uptoBulkAll spare + 1
  | .agg parts => uptoBulkAll parts + 1
  | .iface _ d => uptoBulk d + 1
  | .map entries => uptoBulkEntries entries + 1
  | .held _ => 1
def uptoBulkAll {H : Type} : List (DataW H) → Nat
  | [] => 0
  | d :: r => uptoBulk d + uptoBulkAll r
def uptoBulkEntries {H : Type} : List (Lit × DataW H) → Nat
  | [] => 0
  | x :: r => uptoBulkEntry x + uptoBulkEntries r
def uptoBulkEntry {H : Type} : Lit × DataW H → Nat
  | (.string bytes, d) => bytes.length + uptoBulk d + 1
  | (_, d) => uptoBulk d + 1
 end
def uptoSmall : (H : Type) → List (DataW H) → Bool := fun _ ds => decide (uptoBulkAll ds ≤ 1048576)
def OpenSpec.upto (s : _root_.Go.ChangeSpec) : _root_.Go.OpenSpec := { _root_.Go.OpenSpec.ofChange s with cond := some uptoSmall }

/-- 'laws.FnInstructions', WHERE WHAT IT READS IS OF BULK AT MOST 1048576: true; the input reads as it did. -/
def fnInstructionsUptoRow : OpenClaim := { program := "ytamnalkoacpcoaa", sum := "2c88d9d2862df76799b6ac08751e4e82ca46cb3c59ee5e806ed651ecc0c5f3be", func := "loop.example/g00591/laws.FnInstructions", spec := "fnInstructions", unfollowed := true, recurses := true, apart := false, narrowed := true }
def FnInstructionsUptoSaid : Prop := fnInstructionsUptoRow.holds Try.pinned (OpenSpec.upto fnInstructionsSpec)

/-- 'laws.FnExactIsName', WHERE WHAT IT READS IS OF BULK AT MOST 1048576: true; the input reads as it did. -/
def fnExactIsNameUptoRow : OpenClaim := { program := "ytamnalkoacpcoaa", sum := "2c88d9d2862df76799b6ac08751e4e82ca46cb3c59ee5e806ed651ecc0c5f3be", func := "loop.example/g00591/laws.FnExactIsName", spec := "fnExactIsName", apart := false, narrowed := true }
def FnExactIsNameUptoSaid : Prop := fnExactIsNameUptoRow.holds Try.pinned (OpenSpec.upto fnExactIsNameSpec)

/-- 'laws.FnExactIsReg', WHERE WHAT IT READS IS OF BULK AT MOST 1048576: true; the input reads as it did. -/
def fnExactIsRegUptoRow : OpenClaim := { program := "ytamnalkoacpcoaa", sum := "2c88d9d2862df76799b6ac08751e4e82ca46cb3c59ee5e806ed651ecc0c5f3be", func := "loop.example/g00591/laws.FnExactIsReg", spec := "fnExactIsReg", apart := false, narrowed := true }
def FnExactIsRegUptoSaid : Prop := fnExactIsRegUptoRow.holds Try.pinned (OpenSpec.upto fnExactIsRegSpec)

/-- 'laws.FnExactIsInstr', WHERE WHAT IT READS IS OF BULK AT MOST 1048576: true; the input reads as it did. -/
def fnExactIsInstrUptoRow : OpenClaim := { program := "ytamnalkoacpcoaa", sum := "2c88d9d2862df76799b6ac08751e4e82ca46cb3c59ee5e806ed651ecc0c5f3be", func := "loop.example/g00591/laws.FnExactIsInstr", spec := "fnExactIsInstr", unfollowed := true, recurses := true, apart := false, narrowed := true }
def FnExactIsInstrUptoSaid : Prop := fnExactIsInstrUptoRow.holds Try.pinned (OpenSpec.upto fnExactIsInstrSpec)

/-- 'laws.FnExactOpName', WHERE WHAT IT READS IS OF BULK AT MOST 1048576: true; the input reads as it did. -/
def fnExactOpNameUptoRow : OpenClaim := { program := "ytamnalkoacpcoaa", sum := "2c88d9d2862df76799b6ac08751e4e82ca46cb3c59ee5e806ed651ecc0c5f3be", func := "loop.example/g00591/laws.FnExactOpName", spec := "fnExactOpName", apart := false, narrowed := true }
def FnExactOpNameUptoSaid : Prop := fnExactOpNameUptoRow.holds Try.pinned (OpenSpec.upto fnExactOpNameSpec)

/-- 'laws.FnExactRegsOf', WHERE WHAT IT READS IS OF BULK AT MOST 1048576: true; the input reads as it did. -/
def fnExactRegsOfUptoRow : OpenClaim := { program := "ytamnalkoacpcoaa", sum := "2c88d9d2862df76799b6ac08751e4e82ca46cb3c59ee5e806ed651ecc0c5f3be", func := "loop.example/g00591/laws.FnExactRegsOf", spec := "fnExactRegsOf", unfollowed := true, recurses := true, apart := false, narrowed := true }
def FnExactRegsOfUptoSaid : Prop := fnExactRegsOfUptoRow.holds Try.pinned (OpenSpec.upto fnExactRegsOfSpec)

/-- 'laws.FnExactTargetOf', WHERE WHAT IT READS IS OF BULK AT MOST 1048576: true; the input reads as it did. -/
def fnExactTargetOfUptoRow : OpenClaim := { program := "ytamnalkoacpcoaa", sum := "2c88d9d2862df76799b6ac08751e4e82ca46cb3c59ee5e806ed651ecc0c5f3be", func := "loop.example/g00591/laws.FnExactTargetOf", spec := "fnExactTargetOf", apart := false, narrowed := true }
def FnExactTargetOfUptoSaid : Prop := fnExactTargetOfUptoRow.holds Try.pinned (OpenSpec.upto fnExactTargetOfSpec)

end Rows
end Go.Proofs.Ytamnalkoacpcoaa
