/- The exact law of EqualValues. -/
import Derived.Test.YtiojckpopgpacaaLAre
namespace Go.Proofs.Ytiojckpopgpacaa
open Go.RowKit
theorem specEqVSB (A A' : Option Addr) (n n' c c' : Nat) (L L' : List V) (b : Bool) (w : World) (h : FR layV w A n L) (h' : FR layV w A' n' L') (hn : n ≤ 1099511627776) (hb : eqVals L L' = b) :
    Calls Try.prog 35 #[.slice A n c, .slice A' n' c'] w (GivesBool b w) := by
  subst hb
  exact specEqVS A A' n n' c c' L L' w h h' hn
theorem implEqVSB (A A' : Option Addr) (n n' c c' : Nat) (L L' : List V) (b : Bool) (w : World) (h : FR layV w A n L) (h' : FR layV w A' n' L') (hn : n ≤ 1099511627776) (hb : eqVals L L' = b) :
    Calls Try.prog 22 #[.slice A n c, .slice A' n' c'] w (GivesBool b w) := by
  subst hb
  exact implEqVS A A' n n' c c' L L' w h h' hn
set_option maxRecDepth 100000 in
set_option maxHeartbeats 4000000 in
theorem law_EqVsB (A : Option Addr) (n c : Nat) (A' : Option Addr) (n' c' : Nat) (b : Bool) (W : World) (L L' : List V) (hn : n ≤ 9223372036854775807) (hn' : n' ≤ 9223372036854775807) (H : Hid (FR layV W A n L)) (H' : Hid (FR layV W A' n' L')) (HX : Hid (eqVals L L' = b)) :
    Calls Try.prog 10 #[.slice A n c, .slice A' n' c'] W (GivesBool true W) := by
  by_cases hbig : n ≤ 1048576
  · by_cases hbig' : n + n' ≤ 1048576
    · rcases b with _ | _
      · go_enter Try.func10, Try.ntmps10
        go_wp2_with fail
        refine (szV_yes A n c _ _ (by omega) (by omega)).mono ?_
        rintro e w' ⟨rfl, rfl⟩
        go_wp2_with fail
        refine (szV_yes A' n' c' _ _ (by omega) (by omega)).mono ?_
        rintro e w' ⟨rfl, rfl⟩
        go_wp2_with fail
        refine (toVS A n c L W H.out (by omega)).mono ?_
        rintro e w1 ⟨As, ns, cs, rfl, hO, hb⟩
        have hsw1 : W.heap.size ≤ w1.heap.size := hb.size
        have HTw1 := Lib.hid hb
        have hns : ns ≤ 1048576 := by have h1 := hO.1; have h2 := H.out.1; omega
        have Hsw1 := Lib.hid hO
        clear hO hb
        go_wp2_with fail
        refine (toVS A' n' c' L' _ (H'.out.below HTw1.out) (by omega)).mono ?_
        rintro e w2 ⟨At, nt, ct, rfl, hO, hb⟩
        have hsw2 : w1.heap.size ≤ w2.heap.size := hb.size
        have Hsw2 := Lib.hid (Hsw1.out.below hb)
        clear Hsw1
        have HTw2 := Lib.hid (HTw1.out.trans (hb.mono HTw1.out.size))
        clear HTw1
        have hnt : nt ≤ 1048576 := by have h1 := hO.1; have h2 := H'.out.1; omega
        have Htw2 := Lib.hid hO
        clear hO hb
        go_wp2_with fail
        refine (specEqVSB As At ns nt cs ct L L' _ _ Hsw2.out.fr Htw2.out.fr (by omega) HX.out).mono ?_
        rintro e w3 ⟨rfl, hb⟩
        have hsw3 : w2.heap.size ≤ w3.heap.size := hb.size
        have Hsw3 := Lib.hid (Hsw2.out.below hb)
        clear Hsw2
        have Htw3 := Lib.hid (Htw2.out.below hb)
        clear Htw2
        have HTw3 := Lib.hid (HTw2.out.trans (hb.mono HTw2.out.size))
        clear HTw2
        clear hb
        clear Hsw3
        clear Htw3
        go_wp2_with fail
        refine (toVS A n c L _ (H.out.below HTw3.out) (by omega)).mono ?_
        rintro e w4 ⟨Ax, nx, cx, rfl, hO, hb⟩
        have hsw4 : w3.heap.size ≤ w4.heap.size := hb.size
        have HTw4 := Lib.hid (HTw3.out.trans (hb.mono HTw3.out.size))
        clear HTw3
        have hnx : nx ≤ 1048576 := by have h1 := hO.1; have h2 := H.out.1; omega
        have Hxw4 := Lib.hid hO
        clear hO hb
        go_wp2_with fail
        refine (toVS A' n' c' L' _ (H'.out.below HTw4.out) (by omega)).mono ?_
        rintro e w5 ⟨Ay, ny, cy, rfl, hO, hb⟩
        have hsw5 : w4.heap.size ≤ w5.heap.size := hb.size
        have Hxw5 := Lib.hid (Hxw4.out.below hb)
        clear Hxw4
        have HTw5 := Lib.hid (HTw4.out.trans (hb.mono HTw4.out.size))
        clear HTw4
        have hny : ny ≤ 1048576 := by have h1 := hO.1; have h2 := H'.out.1; omega
        have Hyw5 := Lib.hid hO
        clear hO hb
        go_wp2_with fail
        refine (implEqVSB Ax Ay nx ny cx cy L L' _ _ Hxw5.out.fr Hyw5.out.fr (by omega) HX.out).mono ?_
        rintro e w6 ⟨rfl, hb⟩
        have hsw6 : w5.heap.size ≤ w6.heap.size := hb.size
        have Hxw6 := Lib.hid (Hxw5.out.below hb)
        clear Hxw5
        have Hyw6 := Lib.hid (Hyw5.out.below hb)
        clear Hyw5
        have HTw6 := Lib.hid (HTw5.out.trans (hb.mono HTw5.out.size))
        clear HTw5
        clear hb
        go_wp2_with fail
        refine (toVS A n c L _ (H.out.below HTw6.out) (by omega)).mono ?_
        rintro e w7 ⟨Au, nu, cu, rfl, hO, hb⟩
        have hsw7 : w6.heap.size ≤ w7.heap.size := hb.size
        have Hxw7 := Lib.hid (Hxw6.out.below hb)
        clear Hxw6
        have Hyw7 := Lib.hid (Hyw6.out.below hb)
        clear Hyw6
        have HTw7 := Lib.hid (HTw6.out.trans (hb.mono HTw6.out.size))
        clear HTw6
        have Huw7 := Lib.hid hO
        clear hO hb
        go_wp2_with fail
        refine (eqVS Ax Au nx nu cx cu _ _ _ Hxw7.out.fr Huw7.out.fr rfl (by omega)).mono ?_
        rintro e w8 ⟨rfl, hb⟩
        have hsw8 : w7.heap.size ≤ w8.heap.size := hb.size
        have Hxw8 := Lib.hid (Hxw7.out.below hb)
        clear Hxw7
        have Hyw8 := Lib.hid (Hyw7.out.below hb)
        clear Hyw7
        have Huw8 := Lib.hid (Huw7.out.below hb)
        clear Huw7
        have HTw8 := Lib.hid (HTw7.out.trans (hb.mono HTw7.out.size))
        clear HTw7
        clear hb
        clear Huw8
        clear Hxw8
        go_wp2_with fail
        refine (toVS A' n' c' L' _ (H'.out.below HTw8.out) (by omega)).mono ?_
        rintro e w9 ⟨Av, nv, cv, rfl, hO, hb⟩
        have hsw9 : w8.heap.size ≤ w9.heap.size := hb.size
        have Hyw9 := Lib.hid (Hyw8.out.below hb)
        clear Hyw8
        have HTw9 := Lib.hid (HTw8.out.trans (hb.mono HTw8.out.size))
        clear HTw8
        have Hvw9 := Lib.hid hO
        clear hO hb
        go_wp2_with fail
        refine (eqVS Ay Av ny nv cy cv _ _ _ Hyw9.out.fr Hvw9.out.fr rfl (by omega)).mono ?_
        rintro e w10 ⟨rfl, hb⟩
        have hsw10 : w9.heap.size ≤ w10.heap.size := hb.size
        have Hyw10 := Lib.hid (Hyw9.out.below hb)
        clear Hyw9
        have Hvw10 := Lib.hid (Hvw9.out.below hb)
        clear Hvw9
        have HTw10 := Lib.hid (HTw9.out.trans (hb.mono HTw9.out.size))
        clear HTw9
        clear hb
        go_wp2_with fail
        go_ret
        exact GivesBool.ret HTw10.out
      · go_enter Try.func10, Try.ntmps10
        go_wp2_with fail
        refine (szV_yes A n c _ _ (by omega) (by omega)).mono ?_
        rintro e w' ⟨rfl, rfl⟩
        go_wp2_with fail
        refine (szV_yes A' n' c' _ _ (by omega) (by omega)).mono ?_
        rintro e w' ⟨rfl, rfl⟩
        go_wp2_with fail
        refine (toVS A n c L W H.out (by omega)).mono ?_
        rintro e w1 ⟨As, ns, cs, rfl, hO, hb⟩
        have hsw1 : W.heap.size ≤ w1.heap.size := hb.size
        have HTw1 := Lib.hid hb
        have hns : ns ≤ 1048576 := by have h1 := hO.1; have h2 := H.out.1; omega
        have Hsw1 := Lib.hid hO
        clear hO hb
        go_wp2_with fail
        refine (toVS A' n' c' L' _ (H'.out.below HTw1.out) (by omega)).mono ?_
        rintro e w2 ⟨At, nt, ct, rfl, hO, hb⟩
        have hsw2 : w1.heap.size ≤ w2.heap.size := hb.size
        have Hsw2 := Lib.hid (Hsw1.out.below hb)
        clear Hsw1
        have HTw2 := Lib.hid (HTw1.out.trans (hb.mono HTw1.out.size))
        clear HTw1
        have hnt : nt ≤ 1048576 := by have h1 := hO.1; have h2 := H'.out.1; omega
        have Htw2 := Lib.hid hO
        clear hO hb
        go_wp2_with fail
        refine (specEqVSB As At ns nt cs ct L L' _ _ Hsw2.out.fr Htw2.out.fr (by omega) HX.out).mono ?_
        rintro e w3 ⟨rfl, hb⟩
        have hsw3 : w2.heap.size ≤ w3.heap.size := hb.size
        have Hsw3 := Lib.hid (Hsw2.out.below hb)
        clear Hsw2
        have Htw3 := Lib.hid (Htw2.out.below hb)
        clear Htw2
        have HTw3 := Lib.hid (HTw2.out.trans (hb.mono HTw2.out.size))
        clear HTw2
        clear hb
        clear Hsw3
        clear Htw3
        go_wp2_with fail
        refine (toVS A n c L _ (H.out.below HTw3.out) (by omega)).mono ?_
        rintro e w4 ⟨Ax, nx, cx, rfl, hO, hb⟩
        have hsw4 : w3.heap.size ≤ w4.heap.size := hb.size
        have HTw4 := Lib.hid (HTw3.out.trans (hb.mono HTw3.out.size))
        clear HTw3
        have hnx : nx ≤ 1048576 := by have h1 := hO.1; have h2 := H.out.1; omega
        have Hxw4 := Lib.hid hO
        clear hO hb
        go_wp2_with fail
        refine (toVS A' n' c' L' _ (H'.out.below HTw4.out) (by omega)).mono ?_
        rintro e w5 ⟨Ay, ny, cy, rfl, hO, hb⟩
        have hsw5 : w4.heap.size ≤ w5.heap.size := hb.size
        have Hxw5 := Lib.hid (Hxw4.out.below hb)
        clear Hxw4
        have HTw5 := Lib.hid (HTw4.out.trans (hb.mono HTw4.out.size))
        clear HTw4
        have hny : ny ≤ 1048576 := by have h1 := hO.1; have h2 := H'.out.1; omega
        have Hyw5 := Lib.hid hO
        clear hO hb
        go_wp2_with fail
        refine (implEqVSB Ax Ay nx ny cx cy L L' _ _ Hxw5.out.fr Hyw5.out.fr (by omega) HX.out).mono ?_
        rintro e w6 ⟨rfl, hb⟩
        have hsw6 : w5.heap.size ≤ w6.heap.size := hb.size
        have Hxw6 := Lib.hid (Hxw5.out.below hb)
        clear Hxw5
        have Hyw6 := Lib.hid (Hyw5.out.below hb)
        clear Hyw5
        have HTw6 := Lib.hid (HTw5.out.trans (hb.mono HTw5.out.size))
        clear HTw5
        clear hb
        go_wp2_with fail
        refine (toVS A n c L _ (H.out.below HTw6.out) (by omega)).mono ?_
        rintro e w7 ⟨Au, nu, cu, rfl, hO, hb⟩
        have hsw7 : w6.heap.size ≤ w7.heap.size := hb.size
        have Hxw7 := Lib.hid (Hxw6.out.below hb)
        clear Hxw6
        have Hyw7 := Lib.hid (Hyw6.out.below hb)
        clear Hyw6
        have HTw7 := Lib.hid (HTw6.out.trans (hb.mono HTw6.out.size))
        clear HTw6
        have Huw7 := Lib.hid hO
        clear hO hb
        go_wp2_with fail
        refine (eqVS Ax Au nx nu cx cu _ _ _ Hxw7.out.fr Huw7.out.fr rfl (by omega)).mono ?_
        rintro e w8 ⟨rfl, hb⟩
        have hsw8 : w7.heap.size ≤ w8.heap.size := hb.size
        have Hxw8 := Lib.hid (Hxw7.out.below hb)
        clear Hxw7
        have Hyw8 := Lib.hid (Hyw7.out.below hb)
        clear Hyw7
        have Huw8 := Lib.hid (Huw7.out.below hb)
        clear Huw7
        have HTw8 := Lib.hid (HTw7.out.trans (hb.mono HTw7.out.size))
        clear HTw7
        clear hb
        clear Huw8
        clear Hxw8
        go_wp2_with fail
        refine (toVS A' n' c' L' _ (H'.out.below HTw8.out) (by omega)).mono ?_
        rintro e w9 ⟨Av, nv, cv, rfl, hO, hb⟩
        have hsw9 : w8.heap.size ≤ w9.heap.size := hb.size
        have Hyw9 := Lib.hid (Hyw8.out.below hb)
        clear Hyw8
        have HTw9 := Lib.hid (HTw8.out.trans (hb.mono HTw8.out.size))
        clear HTw8
        have Hvw9 := Lib.hid hO
        clear hO hb
        go_wp2_with fail
        refine (eqVS Ay Av ny nv cy cv _ _ _ Hyw9.out.fr Hvw9.out.fr rfl (by omega)).mono ?_
        rintro e w10 ⟨rfl, hb⟩
        have hsw10 : w9.heap.size ≤ w10.heap.size := hb.size
        have Hyw10 := Lib.hid (Hyw9.out.below hb)
        clear Hyw9
        have Hvw10 := Lib.hid (Hvw9.out.below hb)
        clear Hvw9
        have HTw10 := Lib.hid (HTw9.out.trans (hb.mono HTw9.out.size))
        clear HTw9
        clear hb
        go_wp2_with fail
        go_ret
        exact GivesBool.ret HTw10.out
    · go_enter Try.func10, Try.ntmps10
      go_wp2_with fail
      refine (szV_yes A n c _ _ (by omega) (by omega)).mono ?_
      rintro e w' ⟨rfl, rfl⟩
      go_wp2_with fail
      refine (szV_no A' n' c' _ _ (by omega) (by omega) (by omega) hn').mono ?_
      rintro e w' ⟨rfl, rfl⟩
      go_wp2_with fail
      go_ret
      exact GivesBool.ret (Below.refl _ _)
  · go_enter Try.func10, Try.ntmps10
    go_wp2_with fail
    refine (szV_no A n c 1048576 _ (by omega) (by omega) (by omega) hn).mono ?_
    rintro e w' ⟨rfl, rfl⟩
    go_wp2_with fail
    go_ret
    exact GivesBool.ret (Below.refl _ _)
theorem law_EqVs (A : Option Addr) (n c : Nat) (A' : Option Addr) (n' c' : Nat) (W : World) (hP : Pairs W A n) (hP' : Pairs W A' n') : Calls Try.prog 10 #[.slice A n c, .slice A' n' c'] W (GivesBool true W) := by
  obtain ⟨L, h, hn⟩ := hP
  obtain ⟨L', h', hn'⟩ := hP'
  exact law_EqVsB A n c A' n' c' _ W L L' hn hn' (Lib.hid h) (Lib.hid h') (Lib.hid rfl)
end Go.Proofs.Ytiojckpopgpacaa
