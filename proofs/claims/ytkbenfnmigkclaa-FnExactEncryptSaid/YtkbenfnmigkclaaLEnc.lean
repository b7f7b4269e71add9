/- The exact law of Encrypt. -/
import Derived.Test.YtkbenfnmigkclaaCryS
import Derived.Test.YtkbenfnmigkclaaOpen
namespace Go.Proofs.Ytkbenfnmigkclaa
open Go.RowKit
set_option maxRecDepth 100000 in
set_option maxHeartbeats 4000000 in
theorem law_Enc (key : Int) (A : Option Addr) (n c : Nat) (W : World) (hC : Code W A n) :
    Calls Try.prog 9 #[.int .i64 key, .slice A n c] W (GivesBool true W) := by
  obtain ⟨zs, hz, hbyt⟩ := hC.rz
  have H := Lib.hid hz
  have HBY := Lib.hid hbyt
  clear hz hbyt hC
  by_cases hbig : n ≤ 1048576
  · go_enter Try.func9, Try.ntmps9
    go_wp2_with fail
    refine (toB A n c zs _ H.out (by omega)).mono ?_
    rintro e w1 ⟨At0, nt0, ct0, rfl, hO, hb⟩
    have hsw1 : W.heap.size ≤ w1.heap.size := hb.size
    have HTw1 := Lib.hid hb
    have hnt0 : nt0 ≤ 1048576 := by have h1 := hO.1; have h2 := H.out.1; omega
    have Ht0w1 := Lib.hid hO
    clear hO hb
    go_wp2_with fail
    refine (specEnc key At0 nt0 ct0 zs _ Ht0w1.out.rz HBY.out (by omega)).mono ?_
    rintro e w2 ⟨Ar, nr, cr, rfl, hO, hb⟩
    have hsw2 : w1.heap.size ≤ w2.heap.size := hb.size
    have Ht0w2 := Lib.hid (Ht0w1.out.below hb)
    clear Ht0w1
    have HTw2 := Lib.hid (HTw1.out.trans (hb.mono HTw1.out.size))
    clear HTw1
    have hnr : nr ≤ 1048576 := by have h1 := hO.1; have h2 := crypt_len (fEnc key) zs; have h3 := H.out.1; omega
    have Hrw2 := Lib.hid hO
    clear hO hb
    clear Ht0w2
    go_wp2_with fail
    refine (toB A n c zs _ (H.out.below HTw2.out) (by omega)).mono ?_
    rintro e w3 ⟨Ax0, nx0, cx0, rfl, hO, hb⟩
    have hsw3 : w2.heap.size ≤ w3.heap.size := hb.size
    have Hrw3 := Lib.hid (Hrw2.out.below hb)
    clear Hrw2
    have HTw3 := Lib.hid (HTw2.out.trans (hb.mono HTw2.out.size))
    clear HTw2
    have hnx0 : nx0 ≤ 1048576 := by have h1 := hO.1; have h2 := H.out.1; omega
    have Hx0w3 := Lib.hid hO
    clear hO hb
    go_wp2_with fail
    refine (implEnc key Ax0 nx0 cx0 zs _ Hx0w3.out.rz (by omega)).mono ?_
    rintro e w4 ⟨Ag, ng, cg, rfl, hO, hb⟩
    have hsw4 : w3.heap.size ≤ w4.heap.size := hb.size
    have Hrw4 := Lib.hid (Hrw3.out.below hb)
    clear Hrw3
    have Hx0w4 := Lib.hid (Hx0w3.out.below hb)
    clear Hx0w3
    have HTw4 := Lib.hid (HTw3.out.trans (hb.mono HTw3.out.size))
    clear HTw3
    have hng : ng ≤ 1048576 := by have h1 := hO.1; have h2 := crypt_len (fEnc key) zs; have h3 := H.out.1; omega
    have Hgw4 := Lib.hid hO
    clear hO hb
    go_wp2_with fail
    refine (eqB Ag Ar ng nr cg cr _ _ _ Hgw4.out.rz Hrw4.out.rz rfl (by omega)).mono ?_
    rintro e w5 ⟨rfl, hb⟩
    have hsw5 : w4.heap.size ≤ w5.heap.size := hb.size
    have Hrw5 := Lib.hid (Hrw4.out.below hb)
    clear Hrw4
    have Hx0w5 := Lib.hid (Hx0w4.out.below hb)
    clear Hx0w4
    have Hgw5 := Lib.hid (Hgw4.out.below hb)
    clear Hgw4
    have HTw5 := Lib.hid (HTw4.out.trans (hb.mono HTw4.out.size))
    clear HTw4
    clear hb
    go_wp2_with fail
    refine (toB A n c zs _ (H.out.below HTw5.out) (by omega)).mono ?_
    rintro e w6 ⟨Au0, nu0, cu0, rfl, hO, hb⟩
    have hsw6 : w5.heap.size ≤ w6.heap.size := hb.size
    have Hrw6 := Lib.hid (Hrw5.out.below hb)
    clear Hrw5
    have Hx0w6 := Lib.hid (Hx0w5.out.below hb)
    clear Hx0w5
    have Hgw6 := Lib.hid (Hgw5.out.below hb)
    clear Hgw5
    have HTw6 := Lib.hid (HTw5.out.trans (hb.mono HTw5.out.size))
    clear HTw5
    have Hu0w6 := Lib.hid hO
    clear hO hb
    go_wp2_with fail
    refine (eqB Ax0 Au0 nx0 nu0 cx0 cu0 _ _ _ Hx0w6.out.rz Hu0w6.out.rz rfl (by omega)).mono ?_
    rintro e w7 ⟨rfl, hb⟩
    have hsw7 : w6.heap.size ≤ w7.heap.size := hb.size
    have Hrw7 := Lib.hid (Hrw6.out.below hb)
    clear Hrw6
    have Hx0w7 := Lib.hid (Hx0w6.out.below hb)
    clear Hx0w6
    have Hgw7 := Lib.hid (Hgw6.out.below hb)
    clear Hgw6
    have Hu0w7 := Lib.hid (Hu0w6.out.below hb)
    clear Hu0w6
    have HTw7 := Lib.hid (HTw6.out.trans (hb.mono HTw6.out.size))
    clear HTw6
    clear hb
    clear Hu0w7
    go_wp2_with fail
    refine (markB w2.heap.size w3.heap.size Ax0 nx0 cx0 (1) _ _ Hx0w7.out (by omega) (by omega) (by omega)).mono ?_
    rintro e w8 ⟨rfl, hO, hS⟩
    have hsw8 : w7.heap.size ≤ w8.heap.size := hS.size
    have Hrw8 := Lib.hid (Hrw7.out.step hS (by omega))
    clear Hrw7
    have Hgw8 := Lib.hid (Hgw7.out.step hS (by omega))
    clear Hgw7
    have HTw8 := Lib.hid (hS.below HTw7.out (by omega) HTw7.out.size)
    clear HTw7
    have Hx0w8 := Lib.hid hO
    clear hO hS
    clear Hx0w7
    clear Hx0w8
    go_wp2_with fail
    refine (eqB Ag Ar ng nr cg cr _ _ _ Hgw8.out.rz Hrw8.out.rz rfl (by omega)).mono ?_
    rintro e w9 ⟨rfl, hb⟩
    have hsw9 : w8.heap.size ≤ w9.heap.size := hb.size
    have Hrw9 := Lib.hid (Hrw8.out.below hb)
    clear Hrw8
    have Hgw9 := Lib.hid (Hgw8.out.below hb)
    clear Hgw8
    have HTw9 := Lib.hid (HTw8.out.trans (hb.mono HTw8.out.size))
    clear HTw8
    clear hb
    go_wp2_with fail
    refine (markB w3.heap.size w4.heap.size Ag ng cg 1 _ _ Hgw9.out (by omega) (by omega) (by omega)).mono ?_
    rintro e w10 ⟨rfl, hO, hS⟩
    have hsw10 : w9.heap.size ≤ w10.heap.size := hS.size
    have Hrw10 := Lib.hid (Hrw9.out.step hS (by omega))
    clear Hrw9
    have HTw10 := Lib.hid (hS.below HTw9.out (by omega) HTw9.out.size)
    clear HTw9
    have Hgw10 := Lib.hid hO
    clear hO hS
    clear Hgw9
    go_wp2_with fail
    refine (heldB Ag ng cg 1 _ Hgw10.out.rz (by omega) (by omega) (by omega)).mono ?_
    rintro e w11 ⟨rfl, hb⟩
    have hsw11 : w10.heap.size ≤ w11.heap.size := hb.size
    have Hrw11 := Lib.hid (Hrw10.out.below hb)
    clear Hrw10
    have Hgw11 := Lib.hid (Hgw10.out.below hb)
    clear Hgw10
    have HTw11 := Lib.hid (HTw10.out.trans (hb.mono HTw10.out.size))
    clear HTw10
    clear hb
    go_wp2_with fail
    refine (toB A n c zs _ (H.out.below HTw11.out) (by omega)).mono ?_
    rintro e w12 ⟨Av0, nv0, cv0, rfl, hO, hb⟩
    have hsw12 : w11.heap.size ≤ w12.heap.size := hb.size
    have Hrw12 := Lib.hid (Hrw11.out.below hb)
    clear Hrw11
    have Hgw12 := Lib.hid (Hgw11.out.below hb)
    clear Hgw11
    have HTw12 := Lib.hid (HTw11.out.trans (hb.mono HTw11.out.size))
    clear HTw11
    have hnv0 : nv0 ≤ 1048576 := by have h1 := hO.1; have h2 := H.out.1; omega
    have Hv0w12 := Lib.hid hO
    clear hO hb
    go_wp2_with fail
    refine (implEnc key Av0 nv0 cv0 zs _ Hv0w12.out.rz (by omega)).mono ?_
    rintro e w13 ⟨Ah, nh, ch, rfl, hO, hb⟩
    have hsw13 : w12.heap.size ≤ w13.heap.size := hb.size
    have Hrw13 := Lib.hid (Hrw12.out.below hb)
    clear Hrw12
    have Hgw13 := Lib.hid (Hgw12.out.below hb)
    clear Hgw12
    have Hv0w13 := Lib.hid (Hv0w12.out.below hb)
    clear Hv0w12
    have HTw13 := Lib.hid (HTw12.out.trans (hb.mono HTw12.out.size))
    clear HTw12
    have hnh : nh ≤ 1048576 := by have h1 := hO.1; have h2 := crypt_len (fEnc key) zs; have h3 := H.out.1; omega
    have Hhw13 := Lib.hid hO
    clear hO hb
    clear Hv0w13
    go_wp2_with fail
    refine (eqB Ah Ar nh nr ch cr _ _ _ Hhw13.out.rz Hrw13.out.rz rfl (by omega)).mono ?_
    rintro e w14 ⟨rfl, hb⟩
    have hsw14 : w13.heap.size ≤ w14.heap.size := hb.size
    have Hrw14 := Lib.hid (Hrw13.out.below hb)
    clear Hrw13
    have Hgw14 := Lib.hid (Hgw13.out.below hb)
    clear Hgw13
    have Hhw14 := Lib.hid (Hhw13.out.below hb)
    clear Hhw13
    have HTw14 := Lib.hid (HTw13.out.trans (hb.mono HTw13.out.size))
    clear HTw13
    clear hb
    go_wp2_with fail
    refine (heldB Ag ng cg 1 _ Hgw14.out.rz (by omega) (by omega) (by omega)).mono ?_
    rintro e w15 ⟨rfl, hb⟩
    have hsw15 : w14.heap.size ≤ w15.heap.size := hb.size
    have Hrw15 := Lib.hid (Hrw14.out.below hb)
    clear Hrw14
    have Hgw15 := Lib.hid (Hgw14.out.below hb)
    clear Hgw14
    have Hhw15 := Lib.hid (Hhw14.out.below hb)
    clear Hhw14
    have HTw15 := Lib.hid (HTw14.out.trans (hb.mono HTw14.out.size))
    clear HTw14
    clear hb
    go_wp2_with fail
    go_ret
    exact GivesBool.ret HTw15.out
  · go_enter Try.func9, Try.ntmps9
    go_wp2_with fail
    go_ret
    exact GivesBool.ret (Below.refl _ _)
end Go.Proofs.Ytkbenfnmigkclaa
