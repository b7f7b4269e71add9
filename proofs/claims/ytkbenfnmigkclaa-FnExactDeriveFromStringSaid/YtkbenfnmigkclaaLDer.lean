/- The exact law of DeriveFromString. -/
import Derived.Test.YtkbenfnmigkclaaDer
import Derived.Test.YtkbenfnmigkclaaOpen
namespace Go.Proofs.Ytkbenfnmigkclaa
open Go.RowKit
set_option maxRecDepth 100000 in
set_option maxHeartbeats 4000000 in
theorem law_Der (k : Int) (s : ByteArray) (W : World) :
    Calls Try.prog 11 #[.int .i64 k, .string s] W (GivesBool true W) := by
  by_cases hbig : s.size ≤ 1048576
  · go_enter Try.func11, Try.ntmps11
    go_wp2_with fail
    refine (specDerive k s W (by omega)).mono ?_
    rintro e w1 ⟨rfl, hb⟩
    have hsw1 : W.heap.size ≤ w1.heap.size := hb.size
    have HTw1 := Lib.hid hb
    clear hb
    go_wp2_with fail
    refine (implDerive k s _ (by omega)).mono ?_
    rintro e w2 ⟨rfl, hb⟩
    have hsw2 : w1.heap.size ≤ w2.heap.size := hb.size
    have HTw2 := Lib.hid (HTw1.out.trans (hb.mono HTw1.out.size))
    clear HTw1
    clear hb
    go_wp2_with fail
    go_ret
    exact GivesBool.ret HTw2.out
  · go_enter Try.func11, Try.ntmps11
    go_wp2_with fail
    go_ret
    exact GivesBool.ret (Below.refl _ _)
end Go.Proofs.Ytkbenfnmigkclaa
