/- The exact law of IsValidKey. -/
import Derived.Test.YtkbenfnmigkclaaHash
import Derived.Test.YtkbenfnmigkclaaOpen
namespace Go.Proofs.Ytkbenfnmigkclaa
open Go.RowKit
set_option maxRecDepth 100000 in
set_option maxHeartbeats 4000000 in
theorem law_Valid (k : Int) (W : World) :
    Calls Try.prog 7 #[.int .i64 k] W (GivesBool true W) := by
  by_cases h1 : 1 ≤ k
  · by_cases h2 : k ≤ 2147483646
    · go_enter Try.func7, Try.ntmps7
      go_wp2
      go_ret
      exact GivesBool.ret (Below.refl _ _)
    · go_enter Try.func7, Try.ntmps7
      go_wp2
      go_ret
      exact GivesBool.ret (Below.refl _ _)
  · go_enter Try.func7, Try.ntmps7
    go_wp2
    go_ret
    exact GivesBool.ret (Below.refl _ _)
end Go.Proofs.Ytkbenfnmigkclaa
