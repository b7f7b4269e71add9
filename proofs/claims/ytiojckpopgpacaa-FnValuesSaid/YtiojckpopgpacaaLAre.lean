/- The exact law of AreValues. -/
import Derived.Test.YtiojckpopgpacaaLVals
import Derived.Test.YtiojckpopgpacaaImplVS
namespace Go.Proofs.Ytiojckpopgpacaa
open Go.RowKit
theorem specAreVB (A : Option Addr) (n c : Nat) (L : List V) (e : Int) (b : Bool) (w : World) (h : FR layV w A n L) (hn : n ≤ 1099511627776) (hb : areVals L e = b) :
    Calls Try.prog 21 #[.slice A n c, .int .i64 e] w (GivesBool b w) := by
  subst hb
  exact specAreV A n c L e w h hn
theorem implAreVB (A : Option Addr) (n c : Nat) (L : List V) (e : Int) (b : Bool) (w : World) (h : FR layV w A n L) (hn : n ≤ 1099511627776) (hb : areVals L e = b) :
    Calls Try.prog 20 #[.slice A n c, .int .i64 e] w (GivesBool b w) := by
  subst hb
  exact implAreV A n c L e w h hn
theorem szV_yes (A : Option Addr) (n c : Nat) (k : Int) (w : World) (h : (n : Int) ≤ k) (hk : k ≤ 1048576) : Calls Try.prog 32 #[.slice A n c, .int .i64 k] w fun e w' => e = .returned (.int .i64 (k - n)) ∧ w = w' := by
  go_enter Try.func32, Try.ntmps32
  go_wp2
  go_ret
  exact ⟨rfl, rfl⟩
theorem szV_no (A : Option Addr) (n c : Nat) (k : Int) (w : World) (h : ¬ (n : Int) ≤ k) (hk : 0 ≤ k) (hk' : k ≤ 1048576) (hn : n ≤ 9223372036854775807) : Calls Try.prog 32 #[.slice A n c, .int .i64 k] w fun e w' => e = .returned (.int .i64 (-1)) ∧ w = w' := by
  go_enter Try.func32, Try.ntmps32
  go_wp2
  go_ret
  exact ⟨rfl, rfl⟩
set_option maxRecDepth 100000 in
set_option maxHeartbeats 4000000 in
theorem law_AreB (A : Option Addr) (n c : Nat) (e : Int) (b : Bool) (W : World) (L : List V) (hn : n ≤ 9223372036854775807) (H : Hid (FR layV W A n L)) (HX : Hid (areVals L e = b)) :
    Calls Try.prog 9 #[.slice A n c, .int .i64 e] W (GivesBool true W) := by
  by_cases hbig : n ≤ 1048576
  · rcases b with _ | _
    · go_enter Try.func9, Try.ntmps9
      go_wp2_with fail
      refine (szV_yes A n c _ _ (by omega) (by omega)).mono ?_
      rintro e w' ⟨rfl, rfl⟩
      go_wp2_with fail
      refine (toVS A n c L W H.out (by omega)).mono ?_
      rintro e w1 ⟨At, nt, ct, rfl, hO, hb⟩
      have hsw1 : W.heap.size ≤ w1.heap.size := hb.size
      have HTw1 := Lib.hid hb
      have hnt : nt ≤ 1048576 := by have h1 := hO.1; have h2 := H.out.1; omega
      have Htw1 := Lib.hid hO
      clear hO hb
      go_wp2_with fail
      refine (specAreVB At nt ct L e _ _ Htw1.out.fr (by omega) HX.out).mono ?_
      rintro e w2 ⟨rfl, hb⟩
      have hsw2 : w1.heap.size ≤ w2.heap.size := hb.size
      have Htw2 := Lib.hid (Htw1.out.below hb)
      clear Htw1
      have HTw2 := Lib.hid (HTw1.out.trans (hb.mono HTw1.out.size))
      clear HTw1
      clear hb
      clear Htw2
      go_wp2_with fail
      refine (toVS A n c L _ (H.out.below HTw2.out) (by omega)).mono ?_
      rintro e w3 ⟨Ax, nx, cx, rfl, hO, hb⟩
      have hsw3 : w2.heap.size ≤ w3.heap.size := hb.size
      have HTw3 := Lib.hid (HTw2.out.trans (hb.mono HTw2.out.size))
      clear HTw2
      have hnx : nx ≤ 1048576 := by have h1 := hO.1; have h2 := H.out.1; omega
      have Hxw3 := Lib.hid hO
      clear hO hb
      go_wp2_with fail
      refine (implAreVB Ax nx cx L e _ _ Hxw3.out.fr (by omega) HX.out).mono ?_
      rintro e w4 ⟨rfl, hb⟩
      have hsw4 : w3.heap.size ≤ w4.heap.size := hb.size
      have Hxw4 := Lib.hid (Hxw3.out.below hb)
      clear Hxw3
      have HTw4 := Lib.hid (HTw3.out.trans (hb.mono HTw3.out.size))
      clear HTw3
      clear hb
      go_wp2_with fail
      refine (toVS A n c L _ (H.out.below HTw4.out) (by omega)).mono ?_
      rintro e w5 ⟨Au, nu, cu, rfl, hO, hb⟩
      have hsw5 : w4.heap.size ≤ w5.heap.size := hb.size
      have Hxw5 := Lib.hid (Hxw4.out.below hb)
      clear Hxw4
      have HTw5 := Lib.hid (HTw4.out.trans (hb.mono HTw4.out.size))
      clear HTw4
      have Huw5 := Lib.hid hO
      clear hO hb
      go_wp2_with fail
      refine (eqVS Ax Au nx nu cx cu _ _ _ Hxw5.out.fr Huw5.out.fr rfl (by omega)).mono ?_
      rintro e w6 ⟨rfl, hb⟩
      have hsw6 : w5.heap.size ≤ w6.heap.size := hb.size
      have Hxw6 := Lib.hid (Hxw5.out.below hb)
      clear Hxw5
      have Huw6 := Lib.hid (Huw5.out.below hb)
      clear Huw5
      have HTw6 := Lib.hid (HTw5.out.trans (hb.mono HTw5.out.size))
      clear HTw5
      clear hb
      go_wp2_with fail
      go_ret
      exact GivesBool.ret HTw6.out
    · go_enter Try.func9, Try.ntmps9
      go_wp2_with fail
      refine (szV_yes A n c _ _ (by omega) (by omega)).mono ?_
      rintro e w' ⟨rfl, rfl⟩
      go_wp2_with fail
      refine (toVS A n c L W H.out (by omega)).mono ?_
      rintro e w1 ⟨At, nt, ct, rfl, hO, hb⟩
      have hsw1 : W.heap.size ≤ w1.heap.size := hb.size
      have HTw1 := Lib.hid hb
      have hnt : nt ≤ 1048576 := by have h1 := hO.1; have h2 := H.out.1; omega
      have Htw1 := Lib.hid hO
      clear hO hb
      go_wp2_with fail
      refine (specAreVB At nt ct L e _ _ Htw1.out.fr (by omega) HX.out).mono ?_
      rintro e w2 ⟨rfl, hb⟩
      have hsw2 : w1.heap.size ≤ w2.heap.size := hb.size
      have Htw2 := Lib.hid (Htw1.out.below hb)
      clear Htw1
      have HTw2 := Lib.hid (HTw1.out.trans (hb.mono HTw1.out.size))
      clear HTw1
      clear hb
      clear Htw2
      go_wp2_with fail
      refine (toVS A n c L _ (H.out.below HTw2.out) (by omega)).mono ?_
      rintro e w3 ⟨Ax, nx, cx, rfl, hO, hb⟩
      have hsw3 : w2.heap.size ≤ w3.heap.size := hb.size
      have HTw3 := Lib.hid (HTw2.out.trans (hb.mono HTw2.out.size))
      clear HTw2
      have hnx : nx ≤ 1048576 := by have h1 := hO.1; have h2 := H.out.1; omega
      have Hxw3 := Lib.hid hO
      clear hO hb
      go_wp2_with fail
      refine (implAreVB Ax nx cx L e _ _ Hxw3.out.fr (by omega) HX.out).mono ?_
      rintro e w4 ⟨rfl, hb⟩
      have hsw4 : w3.heap.size ≤ w4.heap.size := hb.size
      have Hxw4 := Lib.hid (Hxw3.out.below hb)
      clear Hxw3
      have HTw4 := Lib.hid (HTw3.out.trans (hb.mono HTw3.out.size))
      clear HTw3
      clear hb
      go_wp2_with fail
      refine (toVS A n c L _ (H.out.below HTw4.out) (by omega)).mono ?_
      rintro e w5 ⟨Au, nu, cu, rfl, hO, hb⟩
      have hsw5 : w4.heap.size ≤ w5.heap.size := hb.size
      have Hxw5 := Lib.hid (Hxw4.out.below hb)
      clear Hxw4
      have HTw5 := Lib.hid (HTw4.out.trans (hb.mono HTw4.out.size))
      clear HTw4
      have Huw5 := Lib.hid hO
      clear hO hb
      go_wp2_with fail
      refine (eqVS Ax Au nx nu cx cu _ _ _ Hxw5.out.fr Huw5.out.fr rfl (by omega)).mono ?_
      rintro e w6 ⟨rfl, hb⟩
      have hsw6 : w5.heap.size ≤ w6.heap.size := hb.size
      have Hxw6 := Lib.hid (Hxw5.out.below hb)
      clear Hxw5
      have Huw6 := Lib.hid (Huw5.out.below hb)
      clear Huw5
      have HTw6 := Lib.hid (HTw5.out.trans (hb.mono HTw5.out.size))
      clear HTw5
      clear hb
      go_wp2_with fail
      go_ret
      exact GivesBool.ret HTw6.out
  · go_enter Try.func9, Try.ntmps9
    go_wp2_with fail
    refine (szV_no A n c 1048576 _ (by omega) (by omega) (by omega) hn).mono ?_
    rintro e w' ⟨rfl, rfl⟩
    go_wp2_with fail
    go_ret
    exact GivesBool.ret (Below.refl _ _)
theorem law_Are (A : Option Addr) (n c : Nat) (e : Int) (W : World) (hP : Pairs W A n) : Calls Try.prog 9 #[.slice A n c, .int .i64 e] W (GivesBool true W) := by
  obtain ⟨L, h, hn⟩ := hP
  exact law_AreB A n c e _ W L hn (Lib.hid h) (Lib.hid rfl)
end Go.Proofs.Ytiojckpopgpacaa
