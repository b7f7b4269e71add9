/- FnVarints: an integer is decoded from its varint, and a decoded varint is the encoding of its integer. -/
import Derived.Test.YtemmikbnkcogfaaDec
import Derived.Test.YtemmikbnkcogfaaDecB
import Derived.Test.YtemmikbnkcogfaaDrawB
import Derived.Test.YtemmikbnkcogfaaHelp
import Derived.RegionTactic
import Derived.Deep.RegionHeld3
namespace Go.Proofs.Ytemmikbnkcogfaa
open Go.RowKit
theorem Code.below {w w' : World} {A : Option Addr} {n : Nat} (h : Code w A n) (hb : Below w.heap.size w w') : Code w' A n := by
  obtain ⟨zs, h1, h2, h3, h4⟩ := h
  exact ⟨zs, h1, h2, h3, (h4.below hb).more hb.size⟩
set_option maxRecDepth 100000 in
set_option maxHeartbeats 8000000 in
theorem law_varints (A : Option Addr) (n c : Nat) (W : World) (hC : Code W A n) :
    Calls Try.prog 3 #[.slice A n c] W (GivesBool true W) := by
  have HC := Lib.hid hC
  clear hC
  by_cases hn : n ≤ 1048576
  · go_enter Try.func3, Try.ntmps3
    go_wp2_with fail
    refine (big_no A n c _ hn).mono ?_
    rintro e w' ⟨rfl, rfl⟩
    go_wp2_with fail
    refine (drawAppU A n c _ HC.out hn).mono ?_
    rintro e w1 ⟨Ab, nb, cb, zb, x, rfl, hOb, hbyb, hnb, hx0, hx1, hb1⟩
    have hlb := hOb.1
    have HOb := Lib.hid hOb
    have HBYb := Lib.hid hbyb
    have HB1 := Lib.hid hb1
    have hs1 := hb1.size
    clear hOb hbyb hb1
    go_wp2_with fail
    refine (implAppU Ab nb cb zb x _ HOb.out.rz (by omega) hx0 hx1).mono ?_
    rintro e w2 ⟨Ax, nx, cx, rfl, hOx, hb2⟩
    have hnx : nx = nb + (encU x).length := by have h := hOx.1; rw [List.length_append] at h; omega
    have HNX := Lib.hid hnx
    have hnx2 : nx ≤ 1048582 := by have := encU_len x; omega
    have HOx := Lib.hid hOx
    have HOb2 := Lib.hid (HOb.out.below hb2)
    have HB2 := Lib.hid (HB1.out.trans (hb2.mono hs1))
    have HLB := Lib.hid hlb
    clear hOx hb2 hnx hlb

    have HBYx := Lib.hid (HBYb.out.append (encU_byt x))
    by_cases hin : 0 ≤ x ∧ x ≤ 1000000000000
    · obtain ⟨u, rfl⟩ : ∃ u : Nat, x = u := ⟨x.toNat, by omega⟩
      have hu : u ≤ 1000000000000 := by omega
      have hR : readU (zb ++ encU (u : Int)) (nb : Int) = some (u, (putU u).length) := by
        have h := readU_put zb u [] hu
        rw [List.append_nil, HLB.out] at h
        rw [encU_in hu]
        exact h
      have hl6 := putU_len6 hu
      have hk : nx = nb + (putU u).length := by rw [HNX.out, encU_in hu]
      obtain ⟨k, hkk⟩ : ∃ k, (putU u).length = k := ⟨_, rfl⟩
      rw [hkk] at hR hk hl6
      subst hk
      have HV := Lib.hid (readV_some hR)
      clear hR hkk HNX
      go_wp2_with fail
      refine (implReadV Ax _ cx (zb ++ encU (u : Int)) (nb : Int) _ _ HV.out HOx.out.rz HBYx.out (by omega) (by omega) (by omega)).mono ?_
      rintro e w3 ⟨rfl, hb3⟩
      have HB3 := Lib.hid (HB2.out.trans (hb3.mono HB2.out.size))
      clear hb3
      go_wp2_with fail
      refine (drawReadU A n c _ (HC.out.below HB3.out) hn).mono ?_
      rintro e w5 ⟨Ay, ny, cy, zy, off, rfl, hOy, hbyy, hny, ho0, ho1, hb5⟩
      have hly := hOy.1
      have HOy := Lib.hid hOy
      have HBYy := Lib.hid hbyy
      have HB5 := Lib.hid (HB3.out.trans (hb5.mono HB3.out.size))
      clear hOy hbyy hb5
      rcases hR2 : readU zy off with _ | ⟨v, k⟩
      · have HV2 := Lib.hid (readV_no hR2)
        clear hR2
        go_wp2_with fail
        refine (implReadV Ay ny cy zy off _ _ HV2.out HOy.out.rz HBYy.out (by omega) ho0 ho1).mono ?_
        rintro e w6 ⟨rfl, hb6⟩
        have HB6 := Lib.hid (HB5.out.trans (hb6.mono HB5.out.size))
        have HOy6 := Lib.hid (HOy.out.below hb6)
        clear hb6
        go_wp2_with fail
        refine (specReadV Ay ny cy zy off _ _ HV2.out HOy6.out.rz HBYy.out (by omega) ho0 ho1).mono ?_
        rintro e w7 ⟨rfl, hb7⟩
        have HB7 := Lib.hid (HB6.out.trans (hb7.mono HB6.out.size))
        clear hb7
        go_wp2_with fail
        go_ret
        exact GivesBool.ret HB7.out
      · obtain ⟨p0, p1, p2, p3, p4, p5⟩ := put_readU HBYy.out hR2
        obtain ⟨o, rfl⟩ : ∃ o : Nat, off = o := ⟨off.toNat, by omega⟩
        have hok : o + k ≤ ny := by omega
        have HV2 := Lib.hid (readV_some hR2)
        rw [Int.toNat_natCast] at p5
        have HP5 := Lib.hid p5
        clear hR2 hly p1 p5
        go_wp2_with fail
        refine (implReadV Ay ny cy zy o _ _ HV2.out HOy.out.rz HBYy.out (by omega) ho0 ho1).mono ?_
        rintro e w6 ⟨rfl, hb6⟩
        have HB6 := Lib.hid (HB5.out.trans (hb6.mono HB5.out.size))
        have HOy6 := Lib.hid (HOy.out.below hb6)
        clear hb6
        go_wp2_with fail
        have hcy : ¬ cy = o := by have := HOy.out.cap.1; omega
        have hcy2 : o + k ≤ cy := by have := HOy.out.cap.1; omega
        have g1 : (0 : Int) ≤ (o : Int) := by omega
        have g2 : (o : Int) + (k : Int) ≤ (ny : Int) := by omega
        have g3 : (o : Int) < (o : Int) + (k : Int) := by omega
        have g4 : (o : Int) + (k : Int) ≤ (cy : Int) := by omega
        have g5 : (0 : Int) ≤ (o : Int) + (k : Int) := by omega
        have g6 : (o : Int) ≤ (o : Int) + (k : Int) := by omega
        have HRy := Lib.hid (HOy6.out.rz)
        go_region_held3 (fun _ => True) (trivial)
          (first
          | (go_at_call 14; refine (implAppU _ 0 _ [] (v : Int) _ Rz.nil (by omega) (by omega) (by omega)).mono ?_; rintro e w7 ⟨A7, n7, c7, rfl, hO7, hb7⟩; have hn7 : n7 ≤ 6 := by have h1 := hO7.1; have h2 := encU_len (v : Int); rw [List.nil_append] at h1; omega
             have HB76 : Hid (Below w6.heap.size w6 w7) := Lib.hid (((Below.refl _ _).alloc (Nat.le_refl _) (.cells #[] 5)).drew.trans (hb7.mono (by simp)))
             have HCU := Lib.hid ((HRy.out.below HB76.out).cut' (r := ((o : Int) + (k : Int)).toNat - o) hok (by omega))
             have HO7 := Lib.hid hO7; have HB7 := Lib.hid hb7; clear hO7 hb7)
          | (go_at_call 16; refine (sameB A7 _ n7 _ c7 _ _ _ w7 HO7.out.rz HCU.out (by rw [List.nil_append, encU_in p4]; exact HP5.out.symm) (by omega)).mono ?_; rintro e w8 ⟨rfl, hb8⟩; have HB8 := Lib.hid (HB76.out.trans (hb8.mono HB76.out.size)); clear hb8))
        go_wp2_with fail
        go_ret
        exact GivesBool.ret (HB6.out.trans (HB8.out.mono HB6.out.size))
    · have hR : readU (zb ++ encU x) (nb : Int) = none := readU_out (by rw [encU_out hin, List.append_nil]; have := HLB.out; omega)
      have HV := Lib.hid (readV_no hR)
      clear hR
      have hxx : x < 0 ∨ 1000000000000 < x := by omega
      rcases hxx with hneg | hpos
      all_goals
        go_wp2_with fail
        refine (implReadV Ax _ cx (zb ++ encU x) (nb : Int) _ _ HV.out HOx.out.rz HBYx.out (by omega) (by omega) (by omega)).mono ?_
        rintro e w3 ⟨rfl, hb3⟩
        have HOx3 := Lib.hid (HOx.out.below hb3)
        have HOb3 := Lib.hid (HOb2.out.below hb3)
        have HB2' := Lib.hid (HB2.out.trans (hb3.mono HB2.out.size))
        clear hb3
        go_wp2_with fail
        refine (sameB Ax Ab nx nb cx cb _ _ _ HOx3.out.rz HOb3.out.rz (by rw [encU_out hin, List.append_nil]) (by omega)).mono ?_
        rintro e w4 ⟨rfl, hb3⟩
        have HB3 := Lib.hid (HB2'.out.trans (hb3.mono HB2'.out.size))
        clear hb3
        go_wp2_with fail
        refine (drawReadU A n c _ (HC.out.below HB3.out) hn).mono ?_
        rintro e w5 ⟨Ay, ny, cy, zy, off, rfl, hOy, hbyy, hny, ho0, ho1, hb5⟩
        have hly := hOy.1
        have HOy := Lib.hid hOy
        have HBYy := Lib.hid hbyy
        have HB5 := Lib.hid (HB3.out.trans (hb5.mono HB3.out.size))
        clear hOy hbyy hb5
        rcases hR2 : readU zy off with _ | ⟨v, k⟩
        · have HV2 := Lib.hid (readV_no hR2)
          clear hR2
          go_wp2_with fail
          refine (implReadV Ay ny cy zy off _ _ HV2.out HOy.out.rz HBYy.out (by omega) ho0 ho1).mono ?_
          rintro e w6 ⟨rfl, hb6⟩
          have HB6 := Lib.hid (HB5.out.trans (hb6.mono HB5.out.size))
          have HOy6 := Lib.hid (HOy.out.below hb6)
          clear hb6
          go_wp2_with fail
          refine (specReadV Ay ny cy zy off _ _ HV2.out HOy6.out.rz HBYy.out (by omega) ho0 ho1).mono ?_
          rintro e w7 ⟨rfl, hb7⟩
          have HB7 := Lib.hid (HB6.out.trans (hb7.mono HB6.out.size))
          clear hb7
          go_wp2_with fail
          go_ret
          exact GivesBool.ret HB7.out
        · obtain ⟨p0, p1, p2, p3, p4, p5⟩ := put_readU HBYy.out hR2
          obtain ⟨o, rfl⟩ : ∃ o : Nat, off = o := ⟨off.toNat, by omega⟩
          have hok : o + k ≤ ny := by omega
          have HV2 := Lib.hid (readV_some hR2)
          rw [Int.toNat_natCast] at p5
          have HP5 := Lib.hid p5
          clear hR2 hly p1 p5
          go_wp2_with fail
          refine (implReadV Ay ny cy zy o _ _ HV2.out HOy.out.rz HBYy.out (by omega) ho0 ho1).mono ?_
          rintro e w6 ⟨rfl, hb6⟩
          have HB6 := Lib.hid (HB5.out.trans (hb6.mono HB5.out.size))
          have HOy6 := Lib.hid (HOy.out.below hb6)
          clear hb6
          go_wp2_with fail
          have hcy : ¬ cy = o := by have := HOy.out.cap.1; omega
          have hcy2 : o + k ≤ cy := by have := HOy.out.cap.1; omega
          have g1 : (0 : Int) ≤ (o : Int) := by omega
          have g2 : (o : Int) + (k : Int) ≤ (ny : Int) := by omega
          have g3 : (o : Int) < (o : Int) + (k : Int) := by omega
          have g4 : (o : Int) + (k : Int) ≤ (cy : Int) := by omega
          have g5 : (0 : Int) ≤ (o : Int) + (k : Int) := by omega
          have g6 : (o : Int) ≤ (o : Int) + (k : Int) := by omega
          have HRy := Lib.hid (HOy6.out.rz)
          go_region_held3 (fun _ => True) (trivial)
            (first
            | (go_at_call 14; refine (implAppU _ 0 _ [] (v : Int) _ Rz.nil (by omega) (by omega) (by omega)).mono ?_; rintro e w7 ⟨A7, n7, c7, rfl, hO7, hb7⟩; have hn7 : n7 ≤ 6 := by have h1 := hO7.1; have h2 := encU_len (v : Int); rw [List.nil_append] at h1; omega
               have HB76 : Hid (Below w6.heap.size w6 w7) := Lib.hid (((Below.refl _ _).alloc (Nat.le_refl _) (.cells #[] 5)).drew.trans (hb7.mono (by simp)))
               have HCU := Lib.hid ((HRy.out.below HB76.out).cut' (r := ((o : Int) + (k : Int)).toNat - o) hok (by omega))
               have HO7 := Lib.hid hO7; have HB7 := Lib.hid hb7; clear hO7 hb7)
            | (go_at_call 16; refine (sameB A7 _ n7 _ c7 _ _ _ w7 HO7.out.rz HCU.out (by rw [List.nil_append, encU_in p4]; exact HP5.out.symm) (by omega)).mono ?_; rintro e w8 ⟨rfl, hb8⟩; have HB8 := Lib.hid (HB76.out.trans (hb8.mono HB76.out.size)); clear hb8))
          go_wp2_with fail
          go_ret
          exact GivesBool.ret (HB6.out.trans (HB8.out.mono HB6.out.size))
  · go_enter Try.func3, Try.ntmps3
    go_wp2_with fail
    refine (big_yes A n c _ hn).mono ?_
    rintro e w' ⟨rfl, rfl⟩
    go_wp2_with fail
    go_ret
    exact GivesBool.ret (Below.refl _ _)
end Go.Proofs.Ytemmikbnkcogfaa
