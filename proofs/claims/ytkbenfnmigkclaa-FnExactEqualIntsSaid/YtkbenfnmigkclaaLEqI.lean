/- The exact law of EqualInts. -/
import Derived.Test.YtkbenfnmigkclaaEqI
import Derived.Test.YtkbenfnmigkclaaOpen
namespace Go.Proofs.Ytkbenfnmigkclaa
open Go.RowKit
set_option maxRecDepth 100000 in
set_option maxHeartbeats 4000000 in
theorem law_EqI (A : Option Addr) (n c : Nat) (A' : Option Addr) (n' c' : Nat) (W : World) (hN : Nums W A n) (hN' : Nums W A' n') :
    Calls Try.prog 12 #[.slice A n c, .slice A' n' c'] W (GivesBool true W) := by
  obtain ⟨zs, hz, hnum⟩ := hN
  obtain ⟨zs', hz', hnum'⟩ := hN'
  have H := Lib.hid hz
  have H' := Lib.hid hz'
  clear hz hnum hz' hnum'
  by_cases hbig : n ≤ 1048576
  · by_cases hbig' : n' ≤ 1048576
    · go_enter Try.func12, Try.ntmps12
      go_wp2_with fail
      refine (toI A n c zs W H.out (by omega)).mono ?_
      rintro e w1 ⟨As, ns, cs, rfl, hO, hb⟩
      have hsw1 : W.heap.size ≤ w1.heap.size := hb.size
      have HTw1 := Lib.hid hb
      have hns : ns ≤ 1048576 := by have h1 := hO.1; have h2 := H.out.1; omega
      have Hsw1 := Lib.hid hO
      clear hO hb
      go_wp2_with fail
      refine (toI A' n' c' zs' _ (H'.out.below HTw1.out) (by omega)).mono ?_
      rintro e w2 ⟨At, nt, ct, rfl, hO, hb⟩
      have hsw2 : w1.heap.size ≤ w2.heap.size := hb.size
      have Hsw2 := Lib.hid (Hsw1.out.below hb)
      clear Hsw1
      have HTw2 := Lib.hid (HTw1.out.trans (hb.mono HTw1.out.size))
      clear HTw1
      have hnt : nt ≤ 1048576 := by have h1 := hO.1; have h2 := H'.out.1; omega
      have Htw2 := Lib.hid hO
      clear hO hb
      go_wp2_with fail
      refine (specEqI As At ns nt cs ct zs zs' _ Hsw2.out.rz Htw2.out.rz (by omega)).mono ?_
      rintro e w3 ⟨rfl, hb⟩
      have hsw3 : w2.heap.size ≤ w3.heap.size := hb.size
      have Hsw3 := Lib.hid (Hsw2.out.below hb)
      clear Hsw2
      have Htw3 := Lib.hid (Htw2.out.below hb)
      clear Htw2
      have HTw3 := Lib.hid (HTw2.out.trans (hb.mono HTw2.out.size))
      clear HTw2
      clear hb
      clear Hsw3
      clear Htw3
      go_wp2_with fail
      refine (toI A n c zs _ (H.out.below HTw3.out) (by omega)).mono ?_
      rintro e w4 ⟨Ax, nx, cx, rfl, hO, hb⟩
      have hsw4 : w3.heap.size ≤ w4.heap.size := hb.size
      have HTw4 := Lib.hid (HTw3.out.trans (hb.mono HTw3.out.size))
      clear HTw3
      have hnx : nx ≤ 1048576 := by have h1 := hO.1; have h2 := H.out.1; omega
      have Hxw4 := Lib.hid hO
      clear hO hb
      go_wp2_with fail
      refine (toI A' n' c' zs' _ (H'.out.below HTw4.out) (by omega)).mono ?_
      rintro e w5 ⟨Ay, ny, cy, rfl, hO, hb⟩
      have hsw5 : w4.heap.size ≤ w5.heap.size := hb.size
      have Hxw5 := Lib.hid (Hxw4.out.below hb)
      clear Hxw4
      have HTw5 := Lib.hid (HTw4.out.trans (hb.mono HTw4.out.size))
      clear HTw4
      have hny : ny ≤ 1048576 := by have h1 := hO.1; have h2 := H'.out.1; omega
      have Hyw5 := Lib.hid hO
      clear hO hb
      go_wp2_with fail
      refine (implEqI Ax Ay nx ny cx cy zs zs' _ Hxw5.out.rz Hyw5.out.rz (by omega)).mono ?_
      rintro e w6 ⟨rfl, hb⟩
      have hsw6 : w5.heap.size ≤ w6.heap.size := hb.size
      have Hxw6 := Lib.hid (Hxw5.out.below hb)
      clear Hxw5
      have Hyw6 := Lib.hid (Hyw5.out.below hb)
      clear Hyw5
      have HTw6 := Lib.hid (HTw5.out.trans (hb.mono HTw5.out.size))
      clear HTw5
      clear hb
      go_wp2_with fail
      refine (toI A n c zs _ (H.out.below HTw6.out) (by omega)).mono ?_
      rintro e w7 ⟨Au, nu, cu, rfl, hO, hb⟩
      have hsw7 : w6.heap.size ≤ w7.heap.size := hb.size
      have Hxw7 := Lib.hid (Hxw6.out.below hb)
      clear Hxw6
      have Hyw7 := Lib.hid (Hyw6.out.below hb)
      clear Hyw6
      have HTw7 := Lib.hid (HTw6.out.trans (hb.mono HTw6.out.size))
      clear HTw6
      have Huw7 := Lib.hid hO
      clear hO hb
      go_wp2_with fail
      refine (eqI Ax Au nx nu cx cu _ _ _ Hxw7.out.rz Huw7.out.rz rfl (by omega)).mono ?_
      rintro e w8 ⟨rfl, hb⟩
      have hsw8 : w7.heap.size ≤ w8.heap.size := hb.size
      have Hxw8 := Lib.hid (Hxw7.out.below hb)
      clear Hxw7
      have Hyw8 := Lib.hid (Hyw7.out.below hb)
      clear Hyw7
      have Huw8 := Lib.hid (Huw7.out.below hb)
      clear Huw7
      have HTw8 := Lib.hid (HTw7.out.trans (hb.mono HTw7.out.size))
      clear HTw7
      clear hb
      clear Huw8
      clear Hxw8
      go_wp2_with fail
      refine (toI A' n' c' zs' _ (H'.out.below HTw8.out) (by omega)).mono ?_
      rintro e w9 ⟨Av, nv, cv, rfl, hO, hb⟩
      have hsw9 : w8.heap.size ≤ w9.heap.size := hb.size
      have Hyw9 := Lib.hid (Hyw8.out.below hb)
      clear Hyw8
      have HTw9 := Lib.hid (HTw8.out.trans (hb.mono HTw8.out.size))
      clear HTw8
      have Hvw9 := Lib.hid hO
      clear hO hb
      go_wp2_with fail
      refine (eqI Ay Av ny nv cy cv _ _ _ Hyw9.out.rz Hvw9.out.rz rfl (by omega)).mono ?_
      rintro e w10 ⟨rfl, hb⟩
      have hsw10 : w9.heap.size ≤ w10.heap.size := hb.size
      have Hyw10 := Lib.hid (Hyw9.out.below hb)
      clear Hyw9
      have Hvw10 := Lib.hid (Hvw9.out.below hb)
      clear Hvw9
      have HTw10 := Lib.hid (HTw9.out.trans (hb.mono HTw9.out.size))
      clear HTw9
      clear hb
      go_wp2_with fail
      go_ret
      exact GivesBool.ret HTw10.out
    · go_enter Try.func12, Try.ntmps12
      go_wp2_with fail
      go_ret
      exact GivesBool.ret (Below.refl _ _)
  · go_enter Try.func12, Try.ntmps12
    go_wp2_with fail
    go_ret
    exact GivesBool.ret (Below.refl _ _)
end Go.Proofs.Ytkbenfnmigkclaa
