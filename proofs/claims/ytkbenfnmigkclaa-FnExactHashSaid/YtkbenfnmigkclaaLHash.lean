/- The exact law of Hash. -/
import Derived.Test.YtkbenfnmigkclaaHash
import Derived.Test.YtkbenfnmigkclaaOpen
namespace Go.Proofs.Ytkbenfnmigkclaa
open Go.RowKit
set_option maxRecDepth 100000 in
set_option maxHeartbeats 4000000 in
theorem law_Hash (A : Option Addr) (n c : Nat) (W : World) (hN : Nums W A n) :
    Calls Try.prog 5 #[.slice A n c] W (GivesBool true W) := by
  obtain ⟨zs, hz, hnum⟩ := hN
  have H := Lib.hid hz
  clear hz hnum
  by_cases hbig : n ≤ 1048576
  · go_enter Try.func5, Try.ntmps5
    go_wp2_with fail
    refine (toI A n c zs W H.out (by omega)).mono ?_
    rintro e w1 ⟨At, nt, ct, rfl, hO, hb⟩
    have hsw1 : W.heap.size ≤ w1.heap.size := hb.size
    have HTw1 := Lib.hid hb
    have hnt : nt ≤ 1048576 := by have h1 := hO.1; have h2 := H.out.1; omega
    have Htw1 := Lib.hid hO
    clear hO hb
    go_wp2_with fail
    refine (specHash At nt ct zs _ Htw1.out.rz (by omega)).mono ?_
    rintro e w2 ⟨rfl, hb⟩
    have hsw2 : w1.heap.size ≤ w2.heap.size := hb.size
    have Htw2 := Lib.hid (Htw1.out.below hb)
    clear Htw1
    have HTw2 := Lib.hid (HTw1.out.trans (hb.mono HTw1.out.size))
    clear HTw1
    clear hb
    clear Htw2
    go_wp2_with fail
    refine (toI A n c zs _ (H.out.below HTw2.out) (by omega)).mono ?_
    rintro e w3 ⟨Ax, nx, cx, rfl, hO, hb⟩
    have hsw3 : w2.heap.size ≤ w3.heap.size := hb.size
    have HTw3 := Lib.hid (HTw2.out.trans (hb.mono HTw2.out.size))
    clear HTw2
    have hnx : nx ≤ 1048576 := by have h1 := hO.1; have h2 := H.out.1; omega
    have Hxw3 := Lib.hid hO
    clear hO hb
    go_wp2_with fail
    refine (implHash Ax nx cx zs _ Hxw3.out.rz (by omega)).mono ?_
    rintro e w4 ⟨rfl, hb⟩
    have hsw4 : w3.heap.size ≤ w4.heap.size := hb.size
    have Hxw4 := Lib.hid (Hxw3.out.below hb)
    clear Hxw3
    have HTw4 := Lib.hid (HTw3.out.trans (hb.mono HTw3.out.size))
    clear HTw3
    clear hb
    go_wp2_with fail
    refine (toI A n c zs _ (H.out.below HTw4.out) (by omega)).mono ?_
    rintro e w5 ⟨Au, nu, cu, rfl, hO, hb⟩
    have hsw5 : w4.heap.size ≤ w5.heap.size := hb.size
    have Hxw5 := Lib.hid (Hxw4.out.below hb)
    clear Hxw4
    have HTw5 := Lib.hid (HTw4.out.trans (hb.mono HTw4.out.size))
    clear HTw4
    have Huw5 := Lib.hid hO
    clear hO hb
    go_wp2_with fail
    refine (eqI Ax Au nx nu cx cu _ _ _ Hxw5.out.rz Huw5.out.rz rfl (by omega)).mono ?_
    rintro e w6 ⟨rfl, hb⟩
    have hsw6 : w5.heap.size ≤ w6.heap.size := hb.size
    have Hxw6 := Lib.hid (Hxw5.out.below hb)
    clear Hxw5
    have Huw6 := Lib.hid (Huw5.out.below hb)
    clear Huw5
    have HTw6 := Lib.hid (HTw5.out.trans (hb.mono HTw5.out.size))
    clear HTw5
    clear hb
    go_wp2_with fail
    go_ret
    exact GivesBool.ret HTw6.out
  · go_enter Try.func5, Try.ntmps5
    go_wp2_with fail
    go_ret
    exact GivesBool.ret (Below.refl _ _)
end Go.Proofs.Ytkbenfnmigkclaa
