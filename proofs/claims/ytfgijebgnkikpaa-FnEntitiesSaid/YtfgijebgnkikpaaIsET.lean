/- The reference's IsEntity. -/
import Derived.Test.YtfgijebgnkikpaaIsER
import Derived.Test.YtfgijebgnkikpaaIsES
import Derived.LoopTactic
import Derived.Lib.Hide
import Derived.Deep.QuietTactic
import Derived.BigQuiet
import Derived.Deep.RegionWith
import Derived.Handy
namespace Go.Proofs.Ytfgijebgnkikpaa
open Go.RowKit
set_option linter.unusedVariables false
set_option linter.unusedSimpArgs false
theorem specIsEnt (f0 : Int) (f1 : Int) (L2 : List Dat) (A2 : Option Addr) (n2 c2 : Nat) (f3 : Int) (f4_0 : Int) (f4_1 : Int) (L5 : List Dat) (A5 : Option Addr) (n5 c5 : Nat) (L6 : List Dat) (A6 : Option Addr) (n6 c6 : Nat) (f7 : Int) (f8 : Int) (f9 : Int) (f10 : Int) (e : Int) (w : World) (hl2 : Lies w (.l L2) [.slice A2 n2 c2]) (ht2 : ∀ x ∈ L2, Has tyValue x) (hn2 : n2 ≤ 1099511627776) (hl5 : Lies w (.l L5) [.slice A5 n5 c5]) (ht5 : ∀ x ∈ L5, Has tySent x) (hn5 : n5 ≤ 1099511627776) (hl6 : Lies w (.l L6) [.slice A6 n6 c6]) (ht6 : ∀ x ∈ L6, Has tyAsker x) (hn6 : n6 ≤ 1099511627776) : Calls Try.prog 19 #[.agg #[.int .i64 f0, .int .i64 f1, .slice A2 n2 c2, .int .i64 f3, .int .i64 f4_0, .int .i64 f4_1, .slice A5 n5 c5, .slice A6 n6 c6, .int .i64 f7, .int .i64 f8, .int .i64 f9, .int .i64 f10], .int .i64 e] w (GivesBool (entB f0 f1 (vs L2) n2 f3 f4_0 f4_1 n5 n6 f7 f8 f9 f10 e) w) := by
  by_cases q1 : f0 = 1
  · subst q1
    exact specEnt1 f1 L2 A2 n2 c2 f3 f4_0 f4_1 L5 A5 n5 c5 L6 A6 n6 c6 f7 f8 f9 f10 e w hl2 ht2 hn2 hl5 ht5 hn5 hl6 ht6 hn6
  · skip
    by_cases q2 : f0 = 2
    · subst q2
      exact specEnt2 f1 L2 A2 n2 c2 f3 f4_0 f4_1 L5 A5 n5 c5 L6 A6 n6 c6 f7 f8 f9 f10 e w hl2 ht2 hn2 hl5 ht5 hn5 hl6 ht6 hn6
    · skip
      by_cases q3 : f0 = 3
      · subst q3
        exact specEnt3 f1 L2 A2 n2 c2 f3 f4_0 f4_1 L5 A5 n5 c5 L6 A6 n6 c6 f7 f8 f9 f10 e w hl2 ht2 hn2 hl5 ht5 hn5 hl6 ht6 hn6
      · skip
        exact specEnt0 f0 f1 L2 A2 n2 c2 f3 f4_0 f4_1 L5 A5 n5 c5 L6 A6 n6 c6 f7 f8 f9 f10 e w hl2 ht2 hn2 hl5 ht5 hn5 hl6 ht6 hn6 q1 q2 q3
end Go.Proofs.Ytfgijebgnkikpaa
