/-
  No cell of these rows narrows 'for every input' (looked for: loops, veiled, ifaces, maps, wideKeys, modest, calm, conditions, laid).
  DERIVED. THE GIVEN ROWS OF THIS SEAT. 8 by the template 'for every input the law returns true; each argument reads behind the call as it read before'; 0 by the template 'total and deterministic' (their statements: YtaepconmjmcbdaaTotals.lean).
  GIVEN WITH THE SEED: the statements are not yours to turn. If you find one false, say at which input.
  Laid BY PROGRAM, IN A SANDBOX (cutbox-rows.mjs): the forced cells as the released guide's own fill.sh prints them over the translation cf96cd9733c1f5b4… (all of the seat's roots in one cut). By AI agents, Wed Nov 11 2026. No macro, syntax, notation, axiom, sorry.
-/
import Derived.Test.YtaepconmjmcbdaaChecked
import GoSem.Claim
import GoSem.ClaimJoined
import GoSem.ClaimMapViews
import Derived.JoinedTies
import Derived.KernelRfl
namespace Go.Proofs.Ytaepconmjmcbdaa
/- THE CELL 'sum', in the pinned program and in every row, IS THE sha256 OF THE DUMP (.gsa) THAT YtaepconmjmcbdaaProg.lean LOADS. Nothing in Lean hashes anything: it is a label: what it is worth is what the hold of that sum in a sandbox is worth. -/
noncomputable def Try.pinned : Pinned := { name := "ytaepconmjmcbdaa", sum := "cf96cd9733c1f5b4abdb0adfb89e618b6780180056d8057fb9fc2afe617f681a", checked := Try.checked }
namespace Rows
def none {H : Type} : Left H := { results := [], args := [] }

/-- 'laws.FnScripts': WHATEVER THE INPUT: true; the input reads as it did. -/
def fnScriptsSpec : ChangeSpec := { name := "fnScripts", fn := fun _ => fun
  | [d] => { results := [.lit (.bool true)], args := [d] }
  | _ => none }
def fnScriptsRow : OpenClaim := { program := "ytaepconmjmcbdaa", sum := "cf96cd9733c1f5b4abdb0adfb89e618b6780180056d8057fb9fc2afe617f681a", func := "loop.example/g00591/laws.FnScripts", spec := "fnScripts", unfollowed := true, recurses := true, apart := false }
def FnScriptsSaid : Prop := fnScriptsRow.holds Try.pinned (OpenSpec.ofChange fnScriptsSpec)

/-- ITS FALSE NEIGHBOUR: 'it returns false'. Refute it at one input. -/
def fnScriptsWrong : ChangeSpec := { name := "fnScripts", fn := fun _ => fun
  | [d] => { results := [.lit (.bool false)], args := [d] }
  | _ => none }
def FnScriptsWrongFalsely : Prop := fnScriptsRow.holds Try.pinned (OpenSpec.ofChange fnScriptsWrong)

/-- 'laws.FnExactIsMethod': WHATEVER THE INPUT: true; the input reads as it did. -/
def fnExactIsMethodSpec : ChangeSpec := { name := "fnExactIsMethod", fn := fun _ => fun
  | [d] => { results := [.lit (.bool true)], args := [d] }
  | _ => none }
def fnExactIsMethodRow : OpenClaim := { program := "ytaepconmjmcbdaa", sum := "cf96cd9733c1f5b4abdb0adfb89e618b6780180056d8057fb9fc2afe617f681a", func := "loop.example/g00591/laws.FnExactIsMethod", spec := "fnExactIsMethod", unfollowed := true, recurses := true, apart := false }
def FnExactIsMethodSaid : Prop := fnExactIsMethodRow.holds Try.pinned (OpenSpec.ofChange fnExactIsMethodSpec)

/-- ITS FALSE NEIGHBOUR: 'it returns false'. Refute it at one input. -/
def fnExactIsMethodWrong : ChangeSpec := { name := "fnExactIsMethod", fn := fun _ => fun
  | [d] => { results := [.lit (.bool false)], args := [d] }
  | _ => none }
def FnExactIsMethodWrongFalsely : Prop := fnExactIsMethodRow.holds Try.pinned (OpenSpec.ofChange fnExactIsMethodWrong)

/-- 'laws.FnExactIsScript': WHATEVER THE INPUT: true; the input reads as it did. -/
def fnExactIsScriptSpec : ChangeSpec := { name := "fnExactIsScript", fn := fun _ => fun
  | [d] => { results := [.lit (.bool true)], args := [d] }
  | _ => none }
def fnExactIsScriptRow : OpenClaim := { program := "ytaepconmjmcbdaa", sum := "cf96cd9733c1f5b4abdb0adfb89e618b6780180056d8057fb9fc2afe617f681a", func := "loop.example/g00591/laws.FnExactIsScript", spec := "fnExactIsScript", unfollowed := true, recurses := true, apart := false }
def FnExactIsScriptSaid : Prop := fnExactIsScriptRow.holds Try.pinned (OpenSpec.ofChange fnExactIsScriptSpec)

/-- ITS FALSE NEIGHBOUR: 'it returns false'. Refute it at one input. -/
def fnExactIsScriptWrong : ChangeSpec := { name := "fnExactIsScript", fn := fun _ => fun
  | [d] => { results := [.lit (.bool false)], args := [d] }
  | _ => none }
def FnExactIsScriptWrongFalsely : Prop := fnExactIsScriptRow.holds Try.pinned (OpenSpec.ofChange fnExactIsScriptWrong)

/-- 'laws.FnExactIsLibrary': WHATEVER THE INPUT: true; the input reads as it did. -/
def fnExactIsLibrarySpec : ChangeSpec := { name := "fnExactIsLibrary", fn := fun _ => fun
  | [d] => { results := [.lit (.bool true)], args := [d] }
  | _ => none }
def fnExactIsLibraryRow : OpenClaim := { program := "ytaepconmjmcbdaa", sum := "cf96cd9733c1f5b4abdb0adfb89e618b6780180056d8057fb9fc2afe617f681a", func := "loop.example/g00591/laws.FnExactIsLibrary", spec := "fnExactIsLibrary", unfollowed := true, recurses := true, apart := false }
def FnExactIsLibrarySaid : Prop := fnExactIsLibraryRow.holds Try.pinned (OpenSpec.ofChange fnExactIsLibrarySpec)

/-- ITS FALSE NEIGHBOUR: 'it returns false'. Refute it at one input. -/
def fnExactIsLibraryWrong : ChangeSpec := { name := "fnExactIsLibrary", fn := fun _ => fun
  | [d] => { results := [.lit (.bool false)], args := [d] }
  | _ => none }
def FnExactIsLibraryWrongFalsely : Prop := fnExactIsLibraryRow.holds Try.pinned (OpenSpec.ofChange fnExactIsLibraryWrong)

/-- 'laws.FnExactFindScript': WHATEVER THE INPUT: true; the input reads as it did. -/
def fnExactFindScriptSpec : ChangeSpec := { name := "fnExactFindScript", fn := fun _ => fun
  | [d1, d2] => { results := [.lit (.bool true)], args := [d1, d2] }
  | _ => none }
def fnExactFindScriptRow : OpenClaim := { program := "ytaepconmjmcbdaa", sum := "cf96cd9733c1f5b4abdb0adfb89e618b6780180056d8057fb9fc2afe617f681a", func := "loop.example/g00591/laws.FnExactFindScript", spec := "fnExactFindScript", unfollowed := true, recurses := true, apart := false }
def FnExactFindScriptSaid : Prop := fnExactFindScriptRow.holds Try.pinned (OpenSpec.ofChange fnExactFindScriptSpec)

/-- ITS FALSE NEIGHBOUR: 'it returns false'. Refute it at one input. -/
def fnExactFindScriptWrong : ChangeSpec := { name := "fnExactFindScript", fn := fun _ => fun
  | [d1, d2] => { results := [.lit (.bool false)], args := [d1, d2] }
  | _ => none }
def FnExactFindScriptWrongFalsely : Prop := fnExactFindScriptRow.holds Try.pinned (OpenSpec.ofChange fnExactFindScriptWrong)

/-- 'laws.FnExactMethodOf': WHATEVER THE INPUT: true; the input reads as it did. -/
def fnExactMethodOfSpec : ChangeSpec := { name := "fnExactMethodOf", fn := fun _ => fun
  | [d1, d2, d3] => { results := [.lit (.bool true)], args := [d1, d2, d3] }
  | _ => none }
def fnExactMethodOfRow : OpenClaim := { program := "ytaepconmjmcbdaa", sum := "cf96cd9733c1f5b4abdb0adfb89e618b6780180056d8057fb9fc2afe617f681a", func := "loop.example/g00591/laws.FnExactMethodOf", spec := "fnExactMethodOf", unfollowed := true, recurses := true, apart := false }
def FnExactMethodOfSaid : Prop := fnExactMethodOfRow.holds Try.pinned (OpenSpec.ofChange fnExactMethodOfSpec)

/-- ITS FALSE NEIGHBOUR: 'it returns false'. Refute it at one input. -/
def fnExactMethodOfWrong : ChangeSpec := { name := "fnExactMethodOf", fn := fun _ => fun
  | [d1, d2, d3] => { results := [.lit (.bool false)], args := [d1, d2, d3] }
  | _ => none }
def FnExactMethodOfWrongFalsely : Prop := fnExactMethodOfRow.holds Try.pinned (OpenSpec.ofChange fnExactMethodOfWrong)

/-- 'laws.FnExactEnds': WHATEVER THE INPUT: true; the input reads as it did. -/
def fnExactEndsSpec : ChangeSpec := { name := "fnExactEnds", fn := fun _ => fun
  | [d] => { results := [.lit (.bool true)], args := [d] }
  | _ => none }
def fnExactEndsRow : OpenClaim := { program := "ytaepconmjmcbdaa", sum := "cf96cd9733c1f5b4abdb0adfb89e618b6780180056d8057fb9fc2afe617f681a", func := "loop.example/g00591/laws.FnExactEnds", spec := "fnExactEnds", apart := false }
def FnExactEndsSaid : Prop := fnExactEndsRow.holds Try.pinned (OpenSpec.ofChange fnExactEndsSpec)

/-- ITS FALSE NEIGHBOUR: 'it returns false'. Refute it at one input. -/
def fnExactEndsWrong : ChangeSpec := { name := "fnExactEnds", fn := fun _ => fun
  | [d] => { results := [.lit (.bool false)], args := [d] }
  | _ => none }
def FnExactEndsWrongFalsely : Prop := fnExactEndsRow.holds Try.pinned (OpenSpec.ofChange fnExactEndsWrong)

/-- 'laws.FnExactEqualScripts': WHATEVER THE INPUT: true; the input reads as it did. -/
def fnExactEqualScriptsSpec : ChangeSpec := { name := "fnExactEqualScripts", fn := fun _ => fun
  | [d1, d2] => { results := [.lit (.bool true)], args := [d1, d2] }
  | _ => none }
def fnExactEqualScriptsRow : OpenClaim := { program := "ytaepconmjmcbdaa", sum := "cf96cd9733c1f5b4abdb0adfb89e618b6780180056d8057fb9fc2afe617f681a", func := "loop.example/g00591/laws.FnExactEqualScripts", spec := "fnExactEqualScripts", unfollowed := true, recurses := true, apart := false }
def FnExactEqualScriptsSaid : Prop := fnExactEqualScriptsRow.holds Try.pinned (OpenSpec.ofChange fnExactEqualScriptsSpec)

/-- ITS FALSE NEIGHBOUR: 'it returns false'. Refute it at one input. -/
def fnExactEqualScriptsWrong : ChangeSpec := { name := "fnExactEqualScripts", fn := fun _ => fun
  | [d1, d2] => { results := [.lit (.bool false)], args := [d1, d2] }
  | _ => none }
def FnExactEqualScriptsWrongFalsely : Prop := fnExactEqualScriptsRow.holds Try.pinned (OpenSpec.ofChange fnExactEqualScriptsWrong)

/- THE SECOND FORM. 'bulk': how many values and letters a reading holds, each counted each time it is reached (what is shared counts as often as it is met; a slice's spare places count too). A statement '..UptoSaid' is the law's where the arguments, and the package variables that the reading takes, are together of bulk at most 1048576: NARROWER than '..Said'. Prove '..Said' where nothing that the law and all that it calls make is longer than what came in: it says more and counts as full. Else prove '..UptoSaid'. A law counts once. -/
mutual
def uptoBulk {H : Type} : DataW H → Nat
  | .lit (.string bytes) => bytes.length + 1
  | .lit _ => 1
  | .nil => 1
  | .ptr d => uptoBulk d + 1
  | .slice elems spare => uptoBulkAll elems + uptoBulkAll spare + 1
  | .agg parts => uptoBulkAll parts + 1
  | .iface _ d => uptoBulk d + 1
  | .map entries => uptoBulkEntries entries + 1
  | .held _ => 1
def uptoBulkAll {H : Type} : List (DataW H) → Nat
  | [] => 0
  | d :: r => uptoBulk d + uptoBulkAll r
def uptoBulkEntries {H : Type} : List (Lit × DataW H) → Nat
  | [] => 0
  | x :: r => uptoBulkEntry x + uptoBulkEntries r
def uptoBulkEntry {H : Type} : Lit × DataW H → Nat
  | (.string bytes, d) => bytes.length + uptoBulk d + 1
  | (_, d) => uptoBulk d + 1
 end
def uptoSmall : (H : Type) → List (DataW H) → Bool := fun _ ds => decide (uptoBulkAll ds ≤ 1048576)
def OpenSpec.upto (s : _root_.Go.ChangeSpec) : _root_.Go.OpenSpec := { _root_.Go.OpenSpec.ofChange s with cond := some uptoSmall }

/-- 'laws.FnScripts', WHERE WHAT IT READS IS OF BULK AT MOST 1048576: true; the input reads as it did. -/
def fnScriptsUptoRow : OpenClaim := { program := "ytaepconmjmcbdaa", sum := "cf96cd9733c1f5b4abdb0adfb89e618b6780180056d8057fb9fc2afe617f681a", func := "loop.example/g00591/laws.FnScripts", spec := "fnScripts", unfollowed := true, recurses := true, apart := false, narrowed := true }
def FnScriptsUptoSaid : Prop := fnScriptsUptoRow.holds Try.pinned (OpenSpec.upto fnScriptsSpec)

/-- 'laws.FnExactIsMethod', WHERE WHAT IT READS IS OF BULK AT MOST 1048576: true; the input reads as it did. -/
def fnExactIsMethodUptoRow : OpenClaim := { program := "ytaepconmjmcbdaa", sum := "cf96cd9733c1f5b4abdb0adfb89e618b6780180056d8057fb9fc2afe617f681a", func := "loop.example/g00591/laws.FnExactIsMethod", spec := "fnExactIsMethod", unfollowed := true, recurses := true, apart := false, narrowed := true }
def FnExactIsMethodUptoSaid : Prop := fnExactIsMethodUptoRow.holds Try.pinned (OpenSpec.upto fnExactIsMethodSpec)

/-- 'laws.FnExactIsScript', WHERE WHAT IT READS IS OF BULK AT MOST 1048576: true; the input reads as it did. -/
def fnExactIsScriptUptoRow : OpenClaim := { program := "ytaepconmjmcbdaa", sum := "cf96cd9733c1f5b4abdb0adfb89e618b6780180056d8057fb9fc2afe617f681a", func := "loop.example/g00591/laws.FnExactIsScript", spec := "fnExactIsScript", unfollowed := true, recurses := true, apart := false, narrowed := true }
def FnExactIsScriptUptoSaid : Prop := fnExactIsScriptUptoRow.holds Try.pinned (OpenSpec.upto fnExactIsScriptSpec)

/-- 'laws.FnExactIsLibrary', WHERE WHAT IT READS IS OF BULK AT MOST 1048576: true; the input reads as it did. -/
def fnExactIsLibraryUptoRow : OpenClaim := { program := "ytaepconmjmcbdaa", sum := "cf96cd9733c1f5b4abdb0adfb89e618b6780180056d8057fb9fc2afe617f681a", func := "loop.example/g00591/laws.FnExactIsLibrary", spec := "fnExactIsLibrary", unfollowed := true, recurses := true, apart := false, narrowed := true }
def FnExactIsLibraryUptoSaid : Prop := fnExactIsLibraryUptoRow.holds Try.pinned (OpenSpec.upto fnExactIsLibrarySpec)

/-- 'laws.FnExactFindScript', WHERE WHAT IT READS IS OF BULK AT MOST 1048576: true; the input reads as it did. -/
def fnExactFindScriptUptoRow : OpenClaim := { program := "ytaepconmjmcbdaa", sum := "cf96cd9733c1f5b4abdb0adfb89e618b6780180056d8057fb9fc2afe617f681a", func := "loop.example/g00591/laws.FnExactFindScript", spec := "fnExactFindScript", unfollowed := true, recurses := true, apart := false, narrowed := true }
def FnExactFindScriptUptoSaid : Prop := fnExactFindScriptUptoRow.holds Try.pinned (OpenSpec.upto fnExactFindScriptSpec)

/-- 'laws.FnExactMethodOf', WHERE WHAT IT READS IS OF BULK AT MOST 1048576: true; the input reads as it did. -/
def fnExactMethodOfUptoRow : OpenClaim := { program := "ytaepconmjmcbdaa", sum := "cf96cd9733c1f5b4abdb0adfb89e618b6780180056d8057fb9fc2afe617f681a", func := "loop.example/g00591/laws.FnExactMethodOf", spec := "fnExactMethodOf", unfollowed := true, recurses := true, apart := false, narrowed := true }
def FnExactMethodOfUptoSaid : Prop := fnExactMethodOfUptoRow.holds Try.pinned (OpenSpec.upto fnExactMethodOfSpec)

/-- 'laws.FnExactEnds', WHERE WHAT IT READS IS OF BULK AT MOST 1048576: true; the input reads as it did. -/
def fnExactEndsUptoRow : OpenClaim := { program := "ytaepconmjmcbdaa", sum := "cf96cd9733c1f5b4abdb0adfb89e618b6780180056d8057fb9fc2afe617f681a", func := "loop.example/g00591/laws.FnExactEnds", spec := "fnExactEnds", apart := false, narrowed := true }
def FnExactEndsUptoSaid : Prop := fnExactEndsUptoRow.holds Try.pinned (OpenSpec.upto fnExactEndsSpec)

/-- 'laws.FnExactEqualScripts', WHERE WHAT IT READS IS OF BULK AT MOST 1048576: true; the input reads as it did. -/
def fnExactEqualScriptsUptoRow : OpenClaim := { program := "ytaepconmjmcbdaa", sum := "cf96cd9733c1f5b4abdb0adfb89e618b6780180056d8057fb9fc2afe617f681a", func := "loop.example/g00591/laws.FnExactEqualScripts", spec := "fnExactEqualScripts", unfollowed := true, recurses := true, apart := false, narrowed := true }
def FnExactEqualScriptsUptoSaid : Prop := fnExactEqualScriptsUptoRow.holds Try.pinned (OpenSpec.upto fnExactEqualScriptsSpec)

end Rows
end Go.Proofs.Ytaepconmjmcbdaa
