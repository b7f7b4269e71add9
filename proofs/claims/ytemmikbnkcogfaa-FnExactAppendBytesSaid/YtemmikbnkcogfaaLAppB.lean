/- The exact law of AppendBytes. -/
import Derived.Test.YtemmikbnkcogfaaEncS
import Derived.Test.YtemmikbnkcogfaaOpen
namespace Go.Proofs.Ytemmikbnkcogfaa
open Go.RowKit
set_option maxRecDepth 100000 in
set_option maxHeartbeats 4000000 in
theorem law_appB (A : Option Addr) (n c : Nat) (A' : Option Addr) (n' c' : Nat) (W : World) (hC : Code W A n) (hC' : Code W A' n') :
    Calls Try.prog 7 #[.slice A n c, .slice A' n' c'] W (GivesBool true W) := by
  obtain ⟨zs, hz, hbyt⟩ := hC.rz
  obtain ⟨zs', hz', hbyt'⟩ := hC'.rz
  have H := Lib.hid hz
  have H' := Lib.hid hz'
  clear hz hbyt hC hz' hbyt' hC'
  by_cases hbig : n ≤ 1048576
  · by_cases hbig' : n' ≤ 1048576
    · go_enter Try.func7, Try.ntmps7
      go_wp2_with fail
      refine (toB A n c zs _ H.out (by omega)).mono ?_
      rintro e w1 ⟨At0, nt0, ct0, rfl, hO, hb⟩
      have hsw1 : W.heap.size ≤ w1.heap.size := hb.size
      have HTw1 := Lib.hid hb
      have hnt0 : nt0 ≤ 1048576 := by have h1 := hO.1; have h2 := H.out.1; omega
      have Ht0w1 := Lib.hid hO
      clear hO hb
      go_wp2_with fail
      refine (toB A' n' c' zs' _ (H'.out.below HTw1.out) (by omega)).mono ?_
      rintro e w2 ⟨At1, nt1, ct1, rfl, hO, hb⟩
      have hsw2 : w1.heap.size ≤ w2.heap.size := hb.size
      have Ht0w2 := Lib.hid (Ht0w1.out.below hb)
      clear Ht0w1
      have HTw2 := Lib.hid (HTw1.out.trans (hb.mono HTw1.out.size))
      clear HTw1
      have hnt1 : nt1 ≤ 1048576 := by have h1 := hO.1; have h2 := H'.out.1; omega
      have Ht1w2 := Lib.hid hO
      clear hO hb
      go_wp2_with fail
      refine (specAppB' At0 nt0 ct0 zs At1 nt1 ct1 zs' _ Ht0w2.out.rz Ht1w2.out.rz (by omega) (by omega)).mono ?_
      rintro e w3 ⟨Ar, nr, cr, rfl, hO, hb⟩
      have hsw3 : w2.heap.size ≤ w3.heap.size := hb.size
      have Ht0w3 := Lib.hid (Ht0w2.out.below hb)
      clear Ht0w2
      have Ht1w3 := Lib.hid (Ht1w2.out.below hb)
      clear Ht1w2
      have HTw3 := Lib.hid (HTw2.out.trans (hb.mono HTw2.out.size))
      clear HTw2
      have hnr : nr ≤ 2097158 := by have h1 := hO.1; have h2 := encU_len (zs'.length : Int); have h3 := H.out.1; have h4 := H'.out.1; simp only [List.length_append] at h1; omega
      have Hrw3 := Lib.hid hO
      clear hO hb
      clear Ht0w3
      clear Ht1w3
      go_wp2_with fail
      refine (toB A n c zs _ (H.out.below HTw3.out) (by omega)).mono ?_
      rintro e w4 ⟨Ax0, nx0, cx0, rfl, hO, hb⟩
      have hsw4 : w3.heap.size ≤ w4.heap.size := hb.size
      have Hrw4 := Lib.hid (Hrw3.out.below hb)
      clear Hrw3
      have HTw4 := Lib.hid (HTw3.out.trans (hb.mono HTw3.out.size))
      clear HTw3
      have hnx0 : nx0 ≤ 1048576 := by have h1 := hO.1; have h2 := H.out.1; omega
      have Hx0w4 := Lib.hid hO
      clear hO hb
      go_wp2_with fail
      refine (toB A' n' c' zs' _ (H'.out.below HTw4.out) (by omega)).mono ?_
      rintro e w5 ⟨Ax1, nx1, cx1, rfl, hO, hb⟩
      have hsw5 : w4.heap.size ≤ w5.heap.size := hb.size
      have Hrw5 := Lib.hid (Hrw4.out.below hb)
      clear Hrw4
      have Hx0w5 := Lib.hid (Hx0w4.out.below hb)
      clear Hx0w4
      have HTw5 := Lib.hid (HTw4.out.trans (hb.mono HTw4.out.size))
      clear HTw4
      have hnx1 : nx1 ≤ 1048576 := by have h1 := hO.1; have h2 := H'.out.1; omega
      have Hx1w5 := Lib.hid hO
      clear hO hb
      go_wp2_with fail
      refine (implAppB' Ax0 nx0 cx0 zs Ax1 nx1 cx1 zs' _ Hx0w5.out.rz Hx1w5.out.rz (by omega) (by omega)).mono ?_
      rintro e w6 ⟨Ag, ng, cg, rfl, hO, hb⟩
      have hsw6 : w5.heap.size ≤ w6.heap.size := hb.size
      have Hrw6 := Lib.hid (Hrw5.out.below hb)
      clear Hrw5
      have Hx0w6 := Lib.hid (Hx0w5.out.below hb)
      clear Hx0w5
      have Hx1w6 := Lib.hid (Hx1w5.out.below hb)
      clear Hx1w5
      have HTw6 := Lib.hid (HTw5.out.trans (hb.mono HTw5.out.size))
      clear HTw5
      have hng : ng ≤ 2097158 := by have h1 := hO.1; have h2 := encU_len (zs'.length : Int); have h3 := H.out.1; have h4 := H'.out.1; simp only [List.length_append] at h1; omega
      have Hgw6 := Lib.hid hO
      clear hO hb
      go_wp2_with fail
      refine (eqB Ag Ar ng nr cg cr _ _ _ Hgw6.out.rz Hrw6.out.rz rfl (by omega)).mono ?_
      rintro e w7 ⟨rfl, hb⟩
      have hsw7 : w6.heap.size ≤ w7.heap.size := hb.size
      have Hrw7 := Lib.hid (Hrw6.out.below hb)
      clear Hrw6
      have Hx0w7 := Lib.hid (Hx0w6.out.below hb)
      clear Hx0w6
      have Hx1w7 := Lib.hid (Hx1w6.out.below hb)
      clear Hx1w6
      have Hgw7 := Lib.hid (Hgw6.out.below hb)
      clear Hgw6
      have HTw7 := Lib.hid (HTw6.out.trans (hb.mono HTw6.out.size))
      clear HTw6
      clear hb
      go_wp2_with fail
      refine (toB A n c zs _ (H.out.below HTw7.out) (by omega)).mono ?_
      rintro e w8 ⟨Au0, nu0, cu0, rfl, hO, hb⟩
      have hsw8 : w7.heap.size ≤ w8.heap.size := hb.size
      have Hrw8 := Lib.hid (Hrw7.out.below hb)
      clear Hrw7
      have Hx0w8 := Lib.hid (Hx0w7.out.below hb)
      clear Hx0w7
      have Hx1w8 := Lib.hid (Hx1w7.out.below hb)
      clear Hx1w7
      have Hgw8 := Lib.hid (Hgw7.out.below hb)
      clear Hgw7
      have HTw8 := Lib.hid (HTw7.out.trans (hb.mono HTw7.out.size))
      clear HTw7
      have Hu0w8 := Lib.hid hO
      clear hO hb
      go_wp2_with fail
      refine (eqB Ax0 Au0 nx0 nu0 cx0 cu0 _ _ _ Hx0w8.out.rz Hu0w8.out.rz rfl (by omega)).mono ?_
      rintro e w9 ⟨rfl, hb⟩
      have hsw9 : w8.heap.size ≤ w9.heap.size := hb.size
      have Hrw9 := Lib.hid (Hrw8.out.below hb)
      clear Hrw8
      have Hx0w9 := Lib.hid (Hx0w8.out.below hb)
      clear Hx0w8
      have Hx1w9 := Lib.hid (Hx1w8.out.below hb)
      clear Hx1w8
      have Hgw9 := Lib.hid (Hgw8.out.below hb)
      clear Hgw8
      have Hu0w9 := Lib.hid (Hu0w8.out.below hb)
      clear Hu0w8
      have HTw9 := Lib.hid (HTw8.out.trans (hb.mono HTw8.out.size))
      clear HTw8
      clear hb
      clear Hu0w9
      go_wp2_with fail
      refine (toB A' n' c' zs' _ (H'.out.below HTw9.out) (by omega)).mono ?_
      rintro e w10 ⟨Au1, nu1, cu1, rfl, hO, hb⟩
      have hsw10 : w9.heap.size ≤ w10.heap.size := hb.size
      have Hrw10 := Lib.hid (Hrw9.out.below hb)
      clear Hrw9
      have Hx0w10 := Lib.hid (Hx0w9.out.below hb)
      clear Hx0w9
      have Hx1w10 := Lib.hid (Hx1w9.out.below hb)
      clear Hx1w9
      have Hgw10 := Lib.hid (Hgw9.out.below hb)
      clear Hgw9
      have HTw10 := Lib.hid (HTw9.out.trans (hb.mono HTw9.out.size))
      clear HTw9
      have Hu1w10 := Lib.hid hO
      clear hO hb
      go_wp2_with fail
      refine (eqB Ax1 Au1 nx1 nu1 cx1 cu1 _ _ _ Hx1w10.out.rz Hu1w10.out.rz rfl (by omega)).mono ?_
      rintro e w11 ⟨rfl, hb⟩
      have hsw11 : w10.heap.size ≤ w11.heap.size := hb.size
      have Hrw11 := Lib.hid (Hrw10.out.below hb)
      clear Hrw10
      have Hx0w11 := Lib.hid (Hx0w10.out.below hb)
      clear Hx0w10
      have Hx1w11 := Lib.hid (Hx1w10.out.below hb)
      clear Hx1w10
      have Hgw11 := Lib.hid (Hgw10.out.below hb)
      clear Hgw10
      have Hu1w11 := Lib.hid (Hu1w10.out.below hb)
      clear Hu1w10
      have HTw11 := Lib.hid (HTw10.out.trans (hb.mono HTw10.out.size))
      clear HTw10
      clear hb
      clear Hu1w11
      go_wp2_with fail
      refine (markB w3.heap.size w4.heap.size Ax0 nx0 cx0 (1) _ _ Hx0w11.out (by omega) (by omega) (by omega)).mono ?_
      rintro e w12 ⟨rfl, hO, hS⟩
      have hsw12 : w11.heap.size ≤ w12.heap.size := hS.size
      have Hrw12 := Lib.hid (Hrw11.out.step hS (by omega))
      clear Hrw11
      have Hx1w12 := Lib.hid (Hx1w11.out.step hS (by omega))
      clear Hx1w11
      have Hgw12 := Lib.hid (Hgw11.out.step hS (by omega))
      clear Hgw11
      have HTw12 := Lib.hid (hS.below HTw11.out (by omega) HTw11.out.size)
      clear HTw11
      have Hx0w12 := Lib.hid hO
      clear hO hS
      clear Hx0w11
      go_wp2_with fail
      refine (markB w4.heap.size w5.heap.size Ax1 nx1 cx1 (1 + (nx0 : Int)) _ _ Hx1w12.out (by omega) (by omega) (by omega)).mono ?_
      rintro e w13 ⟨rfl, hO, hS⟩
      have hsw13 : w12.heap.size ≤ w13.heap.size := hS.size
      have Hrw13 := Lib.hid (Hrw12.out.step hS (by omega))
      clear Hrw12
      have Hx0w13 := Lib.hid (Hx0w12.out.step hS (by omega))
      clear Hx0w12
      have Hgw13 := Lib.hid (Hgw12.out.step hS (by omega))
      clear Hgw12
      have HTw13 := Lib.hid (hS.below HTw12.out (by omega) HTw12.out.size)
      clear HTw12
      have Hx1w13 := Lib.hid hO
      clear hO hS
      clear Hx1w12
      clear Hx0w13
      clear Hx1w13
      go_wp2_with fail
      refine (eqB Ag Ar ng nr cg cr _ _ _ Hgw13.out.rz Hrw13.out.rz rfl (by omega)).mono ?_
      rintro e w14 ⟨rfl, hb⟩
      have hsw14 : w13.heap.size ≤ w14.heap.size := hb.size
      have Hrw14 := Lib.hid (Hrw13.out.below hb)
      clear Hrw13
      have Hgw14 := Lib.hid (Hgw13.out.below hb)
      clear Hgw13
      have HTw14 := Lib.hid (HTw13.out.trans (hb.mono HTw13.out.size))
      clear HTw13
      clear hb
      go_wp2_with fail
      refine (markB w5.heap.size w6.heap.size Ag ng cg 1 _ _ Hgw14.out (by omega) (by omega) (by omega)).mono ?_
      rintro e w15 ⟨rfl, hO, hS⟩
      have hsw15 : w14.heap.size ≤ w15.heap.size := hS.size
      have Hrw15 := Lib.hid (Hrw14.out.step hS (by omega))
      clear Hrw14
      have HTw15 := Lib.hid (hS.below HTw14.out (by omega) HTw14.out.size)
      clear HTw14
      have Hgw15 := Lib.hid hO
      clear hO hS
      clear Hgw14
      go_wp2_with fail
      refine (heldB Ag ng cg 1 _ Hgw15.out.rz (by omega) (by omega) (by omega)).mono ?_
      rintro e w16 ⟨rfl, hb⟩
      have hsw16 : w15.heap.size ≤ w16.heap.size := hb.size
      have Hrw16 := Lib.hid (Hrw15.out.below hb)
      clear Hrw15
      have Hgw16 := Lib.hid (Hgw15.out.below hb)
      clear Hgw15
      have HTw16 := Lib.hid (HTw15.out.trans (hb.mono HTw15.out.size))
      clear HTw15
      clear hb
      go_wp2_with fail
      refine (toB A n c zs _ (H.out.below HTw16.out) (by omega)).mono ?_
      rintro e w17 ⟨Av0, nv0, cv0, rfl, hO, hb⟩
      have hsw17 : w16.heap.size ≤ w17.heap.size := hb.size
      have Hrw17 := Lib.hid (Hrw16.out.below hb)
      clear Hrw16
      have Hgw17 := Lib.hid (Hgw16.out.below hb)
      clear Hgw16
      have HTw17 := Lib.hid (HTw16.out.trans (hb.mono HTw16.out.size))
      clear HTw16
      have hnv0 : nv0 ≤ 1048576 := by have h1 := hO.1; have h2 := H.out.1; omega
      have Hv0w17 := Lib.hid hO
      clear hO hb
      go_wp2_with fail
      refine (toB A' n' c' zs' _ (H'.out.below HTw17.out) (by omega)).mono ?_
      rintro e w18 ⟨Av1, nv1, cv1, rfl, hO, hb⟩
      have hsw18 : w17.heap.size ≤ w18.heap.size := hb.size
      have Hrw18 := Lib.hid (Hrw17.out.below hb)
      clear Hrw17
      have Hgw18 := Lib.hid (Hgw17.out.below hb)
      clear Hgw17
      have Hv0w18 := Lib.hid (Hv0w17.out.below hb)
      clear Hv0w17
      have HTw18 := Lib.hid (HTw17.out.trans (hb.mono HTw17.out.size))
      clear HTw17
      have hnv1 : nv1 ≤ 1048576 := by have h1 := hO.1; have h2 := H'.out.1; omega
      have Hv1w18 := Lib.hid hO
      clear hO hb
      go_wp2_with fail
      refine (implAppB' Av0 nv0 cv0 zs Av1 nv1 cv1 zs' _ Hv0w18.out.rz Hv1w18.out.rz (by omega) (by omega)).mono ?_
      rintro e w19 ⟨Ah, nh, ch, rfl, hO, hb⟩
      have hsw19 : w18.heap.size ≤ w19.heap.size := hb.size
      have Hrw19 := Lib.hid (Hrw18.out.below hb)
      clear Hrw18
      have Hgw19 := Lib.hid (Hgw18.out.below hb)
      clear Hgw18
      have Hv0w19 := Lib.hid (Hv0w18.out.below hb)
      clear Hv0w18
      have Hv1w19 := Lib.hid (Hv1w18.out.below hb)
      clear Hv1w18
      have HTw19 := Lib.hid (HTw18.out.trans (hb.mono HTw18.out.size))
      clear HTw18
      have hnh : nh ≤ 2097158 := by have h1 := hO.1; have h2 := encU_len (zs'.length : Int); have h3 := H.out.1; have h4 := H'.out.1; simp only [List.length_append] at h1; omega
      have Hhw19 := Lib.hid hO
      clear hO hb
      clear Hv0w19
      clear Hv1w19
      go_wp2_with fail
      refine (eqB Ah Ar nh nr ch cr _ _ _ Hhw19.out.rz Hrw19.out.rz rfl (by omega)).mono ?_
      rintro e w20 ⟨rfl, hb⟩
      have hsw20 : w19.heap.size ≤ w20.heap.size := hb.size
      have Hrw20 := Lib.hid (Hrw19.out.below hb)
      clear Hrw19
      have Hgw20 := Lib.hid (Hgw19.out.below hb)
      clear Hgw19
      have Hhw20 := Lib.hid (Hhw19.out.below hb)
      clear Hhw19
      have HTw20 := Lib.hid (HTw19.out.trans (hb.mono HTw19.out.size))
      clear HTw19
      clear hb
      go_wp2_with fail
      refine (heldB Ag ng cg 1 _ Hgw20.out.rz (by omega) (by omega) (by omega)).mono ?_
      rintro e w21 ⟨rfl, hb⟩
      have hsw21 : w20.heap.size ≤ w21.heap.size := hb.size
      have Hrw21 := Lib.hid (Hrw20.out.below hb)
      clear Hrw20
      have Hgw21 := Lib.hid (Hgw20.out.below hb)
      clear Hgw20
      have Hhw21 := Lib.hid (Hhw20.out.below hb)
      clear Hhw20
      have HTw21 := Lib.hid (HTw20.out.trans (hb.mono HTw20.out.size))
      clear HTw20
      clear hb
      go_wp2_with fail
      go_ret
      exact GivesBool.ret HTw21.out
    · go_enter Try.func7, Try.ntmps7
      go_wp2_with fail
      go_ret
      exact GivesBool.ret (Below.refl _ _)
  · go_enter Try.func7, Try.ntmps7
    go_wp2_with fail
    go_ret
    exact GivesBool.ret (Below.refl _ _)
end Go.Proofs.Ytemmikbnkcogfaa
