/- FnByteStrings: byte strings and lists of integers are decoded from their encodings. -/
import Derived.Test.YtemmikbnkcogfaaDecL
import Derived.Test.YtemmikbnkcogfaaDrawB
import Derived.Test.YtemmikbnkcogfaaHelp
namespace Go.Proofs.Ytemmikbnkcogfaa
open Go.RowKit
theorem readB_enc (zb zd : List Int) (h : zd.length ≤ 1000000000000) : readB (zb ++ encU (zd.length : Int) ++ zd) (zb.length : Int) (zd.length : Int) = some (zd, ((zb ++ encU (zd.length : Int) ++ zd).length : Int)) := by
  have hr : readU (zb ++ encU (zd.length : Int) ++ zd) (zb.length : Int) = some (zd.length, (putU zd.length).length) := by
    rw [encU_in h, List.append_assoc]
    exact readU_put zb zd.length zd h
  rw [readB_yes hr (by rw [encU_in h]; simp only [List.length_append]; omega)]
  have e : ((zb.length : Int) + ((putU zd.length).length : Int)).toNat = (zb ++ encU (zd.length : Int)).length := by rw [encU_in h, List.length_append]; omega
  rw [e, List.drop_left, List.take_of_length_le (Nat.le_refl _)]
  congr 2
  rw [encU_in h]
  simp only [List.length_append]
  omega
theorem readB_short (zb zd : List Int) (h : zd.length ≤ 1000000000000) : readB (zb ++ encU (zd.length : Int) ++ zd) (zb.length : Int) ((zd.length : Int) - 1) = none := by
  have hr : readU (zb ++ encU (zd.length : Int) ++ zd) (zb.length : Int) = some (zd.length, (putU zd.length).length) := by
    rw [encU_in h, List.append_assoc]
    exact readU_put zb zd.length zd h
  exact readB_off hr (Or.inl (by omega))
theorem decGo_enc : ∀ (zs pre : List Int), (∀ z ∈ zs, 0 ≤ z ∧ z ≤ 1000000000000) → decGo (pre ++ encL zs) zs.length (pre.length : Int) = some (zs, ((pre ++ encL zs).length : Int)) := by
  intro zs
  induction zs with
  | nil => intro pre _; simp [decGo, encL]
  | cons z zs ih =>
    intro pre hz
    have h0 := hz z (by simp)
    obtain ⟨u, rfl⟩ : ∃ u : Nat, z = u := ⟨z.toNat, by omega⟩
    have hu : u ≤ 1000000000000 := by omega
    have e : pre ++ encL ((u : Int) :: zs) = (pre ++ putU u) ++ encL zs := by simp [encL, encU_in hu]
    have hr : readU (pre ++ encL ((u : Int) :: zs)) (pre.length : Int) = some (u, (putU u).length) := by
      rw [e, List.append_assoc]
      exact readU_put pre u (encL zs) hu
    have e2 : (pre.length : Int) + ((putU u).length : Int) = ((pre ++ putU u).length : Int) := by simp
    rw [List.length_cons, decGo_yes hr, e2, e, ih (pre ++ putU u) (fun y hy => hz y (by simp [hy]))]
    rfl
theorem decGo_more : ∀ (zs pre : List Int), (∀ z ∈ zs, 0 ≤ z ∧ z ≤ 1000000000000) → decGo (pre ++ encL zs) (zs.length + 1) (pre.length : Int) = none := by
  intro zs
  induction zs with
  | nil => intro pre _; exact decGo_no (readU_out (by simp [encL]))
  | cons z zs ih =>
    intro pre hz
    have h0 := hz z (by simp)
    obtain ⟨u, rfl⟩ : ∃ u : Nat, z = u := ⟨z.toNat, by omega⟩
    have hu : u ≤ 1000000000000 := by omega
    have e : pre ++ encL ((u : Int) :: zs) = (pre ++ putU u) ++ encL zs := by simp [encL, encU_in hu]
    have hr : readU (pre ++ encL ((u : Int) :: zs)) (pre.length : Int) = some (u, (putU u).length) := by
      rw [e, List.append_assoc]
      exact readU_put pre u (encL zs) hu
    have e2 : (pre.length : Int) + ((putU u).length : Int) = ((pre ++ putU u).length : Int) := by simp
    rw [List.length_cons, decGo_yes hr, e2, e, ih (pre ++ putU u) (fun y hy => hz y (by simp [hy]))]
    rfl
theorem decL_enc (zs : List Int) (hz : ∀ z ∈ zs, 0 ≤ z ∧ z ≤ 1000000000000) (hn : zs.length ≤ 100) : decL (encL zs) 0 (zs.length : Int) = some (zs, ((encL zs).length : Int)) := by
  have := decL_in (zs := encL zs) (o := 0) (c := zs.length) hn (Nat.zero_le _)
  rw [show ((0 : Nat) : Int) = 0 from rfl] at this
  rw [this]
  exact decGo_enc zs [] hz
theorem decL_more (zs : List Int) (hz : ∀ z ∈ zs, 0 ≤ z ∧ z ≤ 1000000000000) (hn : zs.length + 1 ≤ 100) : decL (encL zs) 0 ((zs.length : Int) + 1) = none := by
  have := decL_in (zs := encL zs) (o := 0) (c := zs.length + 1) hn (Nat.zero_le _)
  rw [show ((0 : Nat) : Int) = 0 from rfl, show ((zs.length + 1 : Nat) : Int) = (zs.length : Int) + 1 by omega] at this
  rw [this]
  exact decGo_more zs [] hz
theorem implReadB_some (A : Option Addr) (n c : Nat) (zs l : List Int) (off mx x : Int) (w : World) (hr : readB zs off mx = some (l, x)) (h : Rz .u8 w A n zs) (hcap : n ≤ c) (hby : Byt zs) (hn : n ≤ 549755813888) (ho0 : -9223372036854775808 ≤ off) (ho1 : off ≤ 9223372036854775807)
    (hm0 : -9223372036854775808 ≤ mx) (hm1 : mx ≤ 9223372036854775807) : Calls Try.prog 21 #[.slice A n c, .int .i64 off, .int .i64 mx] w (FreshT .u8 5 l x true w) := by
  have k := implReadB A n c zs off mx w h hcap hby hn ho0 ho1 hm0 hm1
  rw [hr] at k
  exact k
theorem implReadB_none (A : Option Addr) (n c : Nat) (zs : List Int) (off mx : Int) (w : World) (hr : readB zs off mx = none) (h : Rz .u8 w A n zs) (hcap : n ≤ c) (hby : Byt zs) (hn : n ≤ 549755813888) (ho0 : -9223372036854775808 ≤ off) (ho1 : off ≤ 9223372036854775807)
    (hm0 : -9223372036854775808 ≤ mx) (hm1 : mx ≤ 9223372036854775807) : Calls Try.prog 21 #[.slice A n c, .int .i64 off, .int .i64 mx] w (FreshT .u8 5 [] 0 false w) := by
  have k := implReadB A n c zs off mx w h hcap hby hn ho0 ho1 hm0 hm1
  rw [hr] at k
  exact k
theorem implDecL_some (A : Option Addr) (n c : Nat) (zs l : List Int) (off mx x : Int) (w : World) (hr : decL zs off mx = some (l, x)) (h : Rz .u8 w A n zs) (hby : Byt zs) (hn : n ≤ 549755813888) (ho0 : -9223372036854775808 ≤ off) (ho1 : off ≤ 9223372036854775807)
    (hm0 : -9223372036854775808 ≤ mx) (hm1 : mx ≤ 9223372036854775807) : Calls Try.prog 24 #[.slice A n c, .int .i64 off, .int .i64 mx] w (FreshT .i64 3 l x true w) := by
  have k := implDecL A n c zs off mx w h hby hn ho0 ho1 hm0 hm1
  rw [hr] at k
  exact k
theorem implDecL_none (A : Option Addr) (n c : Nat) (zs : List Int) (off mx : Int) (w : World) (hr : decL zs off mx = none) (h : Rz .u8 w A n zs) (hby : Byt zs) (hn : n ≤ 549755813888) (ho0 : -9223372036854775808 ≤ off) (ho1 : off ≤ 9223372036854775807)
    (hm0 : -9223372036854775808 ≤ mx) (hm1 : mx ≤ 9223372036854775807) : Calls Try.prog 24 #[.slice A n c, .int .i64 off, .int .i64 mx] w (FreshT .i64 3 [] 0 false w) := by
  have k := implDecL A n c zs off mx w h hby hn ho0 ho1 hm0 hm1
  rw [hr] at k
  exact k
theorem prod3 {x y z : Int} (a : 0 ≤ x) (b : x ≤ 255) (c : 0 ≤ y) (d : y ≤ 255) (e : 0 ≤ z) (f : z ≤ 255) : 0 ≤ x * y ∧ x * y ≤ 65025 ∧ 0 ≤ x * y * z ∧ x * y * z ≤ 16581375 := by
  have h1 : 0 ≤ x * y := Int.mul_nonneg a c
  have h2 : x * y ≤ 255 * y := Int.mul_le_mul_of_nonneg_right b c
  have h3 : 0 ≤ x * y * z := Int.mul_nonneg h1 e
  have h4 : x * y * z ≤ 65025 * z := Int.mul_le_mul_of_nonneg_right (by omega) e
  refine ⟨h1, by omega, h3, by omega⟩
/-- Some numbers are laid. -/
def Listing (W : World) (lo i : Nat) (A : Option Addr) (n c : Nat) (wr : World) : Prop :=
  ∃ zs : List Int, Own .i64 3 lo wr.heap.size wr A n c zs ∧ (∀ z ∈ zs, 0 ≤ z ∧ z ≤ 1000000000000) ∧ n = i ∧ Below W.heap.size W wr ∧ W.heap.size ≤ lo ∧ lo ≤ wr.heap.size
theorem Listing.next {W wr w2 : World} {lo hi i n n' c' : Nat} {A' : Option Addr} {zs : List Int} {x : Int} {o : Obj} (hz : ∀ z ∈ zs, 0 ≤ z ∧ z ≤ 1000000000000) (hn : n = i) (hB : Below W.heap.size W wr) (hl : W.heap.size ≤ lo) (hw : lo ≤ wr.heap.size)
    (hO : Own .i64 3 lo w2.heap.size w2 A' n' c' (zs ++ [x])) (hS : Step lo hi (wr.alloc o) w2) (hx0 : 0 ≤ x) (hx1 : x ≤ 16581375) (hn' : n' = n + 1) : Listing W lo (i + 1) A' n' c' w2 := by
  have hb2 : Below lo wr w2 := ((Below.refl _ _).alloc hw o).trans (hS.low (by simp; omega))
  refine ⟨_, hO, fun z hm => ?_, by omega, hB.trans (hb2.mono hl), hl, Nat.le_trans hw hb2.size⟩
  rcases List.mem_append.1 hm with h | h
  · exact hz z h
  · have : z = x := by simpa using h
    omega
theorem at_int (A : Option Addr) (n c : Nat) (i : Int) (zs : List Int) (w : World) (h : Rz .u8 w A n zs) (hb : Byt zs) (hn : n ≤ 1048576) (h0 : 0 ≤ i) (hi : i ≤ 1048576) : Calls Try.prog 22 #[.slice A n c, .int .i64 i] w (Byte1 w) := by
  obtain ⟨j, rfl⟩ : ∃ j : Nat, i = j := ⟨i.toNat, by omega⟩
  exact at_any A n c j zs w h hb hn (by omega)
set_option maxRecDepth 100000 in
set_option maxHeartbeats 8000000 in
theorem law_strings (A : Option Addr) (n c : Nat) (W : World) (hC : Code W A n) :
    Calls Try.prog 4 #[.slice A n c] W (GivesBool true W) := by
  obtain ⟨zc, hzc, hbyc⟩ := hC.rz
  have HZC := Lib.hid hzc
  have HBYC := Lib.hid hbyc
  have HC := Lib.hid hC
  clear hC hzc hbyc
  by_cases hn : n ≤ 1048576
  · obtain ⟨i0, hi, hz0, hz1, hz2⟩ := info_parts infoI
    go_enter Try.func4, Try.ntmps4
    go_wp2_with fail
    refine (big_no A n c _ hn).mono ?_
    rintro e w' ⟨rfl, rfl⟩
    go_wp2_with fail
    refine (drawAppB A n c _ HC.out hn).mono ?_
    rintro e w1 ⟨Ab, nb, cb, zb, Ad, nd, cd, zd, rfl, hRb, hbyb, hnb, hRd, hbyd, hnd, hb1⟩
    obtain rfl : zb.length = nb := hRb.1
    obtain rfl : zd.length = nd := hRd.1
    have HRb := Lib.hid hRb
    have HRd := Lib.hid hRd
    have HBYb := Lib.hid hbyb
    have HBYd := Lib.hid hbyd
    have HB1 := Lib.hid hb1
    clear hRb hbyb hRd hbyd hb1
    have hne := encU_len (zd.length : Int)
    have HBYx := Lib.hid ((HBYb.out.append (encU_byt (zd.length : Int))).append HBYd.out)
    have HR1 := Lib.hid (readB_enc zb zd (by omega))
    have HR2 := Lib.hid (readB_short zb zd (by omega))
    generalize hnb' : zb.length = nb at *
    generalize hnd' : zd.length = nd at *
    have HNB := Lib.hid hnb'
    have HND := Lib.hid hnd'
    clear hnb' hnd'
    obtain ⟨zx, hzx⟩ : ∃ zx, zb ++ encU (nd : Int) ++ zd = zx := ⟨_, rfl⟩
    rw [hzx] at HR1 HR2 HBYx
    have hxl : zx.length ≤ 2097158 := by rw [← hzx]; simp only [List.length_append]; have h1 := HNB.out; have h2 := HND.out; omega
    go_wp2_with fail
    refine (implAppB Ab nb cb zb Ad nd cd zd _ HRb.out HRd.out (by omega) (by omega)).mono ?_
    rintro e w2 ⟨Ax, nx, cx, rfl, hOx, hb2⟩
    rw [hzx] at hOx
    obtain rfl : zx.length = nx := hOx.1
    generalize hnx' : zx.length = nx at *
    have HNX := Lib.hid hnx'
    have HZX := Lib.hid hzx
    have HOx := Lib.hid hOx
    have HRd2 := Lib.hid (HRd.out.below hb2)
    have HB2 := Lib.hid (HB1.out.trans (hb2.mono HB1.out.size))
    clear hOx hb2 hnx' hzx
    go_wp2_with fail
    refine (implReadB_some Ax nx cx zx zd nb nd nx _ HR1.out HOx.out.rz HOx.out.cap.1 HBYx.out (by omega) (by omega) (by omega) (by omega) (by omega)).mono ?_
    rintro e w3 ⟨Ay, ny, cy, rfl, hOy, hb3⟩
    have hny : ny ≤ 1048576 := by have h1 := hOy.1; have h2 := HND.out; omega
    have HOy := Lib.hid hOy
    have HOx3 := Lib.hid (HOx.out.below hb3)
    have HRd3 := Lib.hid (HRd2.out.below hb3)
    have HB3 := Lib.hid (HB2.out.trans (hb3.mono HB2.out.size))
    clear hOy hb3
    go_wp2_with fail
    refine (implReadB_none Ax nx cx zx nb (nd - 1) _ HR2.out HOx3.out.rz HOx3.out.cap.1 HBYx.out (by omega) (by omega) (by omega) (by omega) (by omega)).mono ?_
    rintro e w4 ⟨As, ns, cs, rfl, hOs, hb4⟩
    have HOy4 := Lib.hid (HOy.out.below hb4)
    have HRd4 := Lib.hid (HRd3.out.below hb4)
    have HB4 := Lib.hid (HB3.out.trans (hb4.mono HB3.out.size))
    clear hOs hb4
    go_wp2_with fail
    refine (sameB Ay Ad ny nd cy cd _ _ _ HOy4.out.rz HRd4.out rfl (by omega)).mono ?_
    rintro e w5 ⟨rfl, hb5⟩
    have HB5 := Lib.hid (HB4.out.trans (hb5.mono HB4.out.size))
    have hs5 := HB5.out.size
    clear hb5
    have HST : Hid (Listing W w5.heap.size 0 (some ⟨w5.heap.size, 0, none⟩) 0 0 (w5.alloc (.cells #[] 3))) := Lib.hid
      ⟨[], (Own.none_ .i64 3 w5).more (by simp) (Nat.le_refl _), (fun z h => by cases h), rfl, HB5.out.trans ((Below.refl _ _).alloc hs5 _), hs5, by simp⟩
    go_wp2_with fail
    go_loopw [12, 13] (fun sv iv wr => ∃ (A' : Option Addr) (n' c' i : Nat), sv = .slice A' n' c' ∧ iv = .int .i64 i ∧ i ≤ 5 ∧ Listing W w5.heap.size i A' n' c' wr) (fun _ iv _ => 6 - (intOf iv).toNat)
    case atStart => exact ⟨_, _, _, 0, rfl, rfl, by omega, HST.out⟩
    case round =>
      obtain ⟨A', n', c', i, rfl, rfl, hi5, hL⟩ := hrel
      obtain ⟨zl, hO, hz, hni, hB, hl, hw⟩ := hL
      have hn5 : n' ≤ 5 := by omega
      have HO := Lib.hid hO
      have HZ := Lib.hid hz
      have HNI := Lib.hid hni
      have HB := Lib.hid hB
      clear hO hz hni hB
      go_wp2_with fail
      refine (at_int A n c 0 zc _ (HZC.out.below HB.out) HBYC.out hn (by omega) (by omega)).mono ?_
      rintro e w6 ⟨x, hx0, hx1, rfl, rfl⟩
      by_cases hlt : (i : Int) < x % 6
      · go_wp2_with fail
        refine (at_int A n c _ zc _ (HZC.out.below HB.out) HBYC.out hn (by omega) (by omega)).mono ?_
        rintro e w6 ⟨x1, hx10, hx11, rfl, rfl⟩
        go_wp2_with fail
        refine (at_int A n c _ zc _ (HZC.out.below HB.out) HBYC.out hn (by omega) (by omega)).mono ?_
        rintro e w6 ⟨x2, hx20, hx21, rfl, rfl⟩
        obtain ⟨q0, q1, -, -⟩ := prod3 hx10 hx11 hx20 hx21 hx20 hx21
        go_wp2_with fail
        refine (at_int A n c _ zc _ (HZC.out.below HB.out) HBYC.out hn (by omega) (by omega)).mono ?_
        rintro e w6 ⟨x3, hx30, hx31, rfl, rfl⟩
        obtain ⟨-, -, q2, q3⟩ := prod3 hx10 hx11 hx20 hx21 hx30 hx31
        go_wp2_with (at_builtin; refine wpList_append_rz _ rfl _ _ 35 rfl .i64 3 i0 0 8 Try.underlying35 hi hz0 hz1 hz2 w5.heap.size wr.heap.size A' n' c' _ rfl (HO.out.alloc _) _ 1 1 [_] rfl (Rz.one _ _ _ _) (by unfold maxLen; omega) (by omega) (by simp; omega) ?_; intro A7 c7 w7 hO7 hS7; have HO7 := Lib.hid hO7; have HS7 := Lib.hid hS7; clear hO7 hS7)
        have HN := Lib.hid (Listing.next HZ.out HNI.out HB.out hl hw HO7.out HS7.out q2 q3 rfl)
        clear HO7 HS7
        go_roundw
        case rel => exact ⟨A7, n' + 1, c7, i + 1, rfl, by go_num, by omega, HN.out⟩
        case measure => simp [intOf]; omega
      · obtain rfl : zl.length = n' := HO.out.1
        have HD1 := Lib.hid (decL_enc zl HZ.out (by omega))
        have HD2 := Lib.hid (decL_more zl HZ.out (by omega))
        have HBYe := Lib.hid (encL_byt zl)
        have hle := encL_len zl
        have hzw : ∀ z ∈ zl, -9223372036854775808 ≤ z ∧ z ≤ 9223372036854775807 := fun z h => by have := HZ.out z h; omega
        have HZW := Lib.hid hzw
        clear hzw
        generalize hnl : zl.length = nl at *
        have HNL := Lib.hid hnl
        clear hnl
        go_wp2_with fail
        refine (implEncL A' nl c' zl _ HO.out.rz HZW.out (by omega)).mono ?_
        rintro e w7 ⟨Ae, ne, ce, rfl, hOe, hb7⟩
        have hne' : ne ≤ 30 := by have h1 := hOe.1; omega
        have HNE := Lib.hid hOe.1
        have HOe := Lib.hid hOe
        have HOl := Lib.hid (HO.out.below hb7)
        have HB7 := Lib.hid (HB.out.trans (hb7.mono HB.out.size))
        clear hOe hb7
        have HD3 : Hid (decL (encL zl) 0 (nl : Int) = some (zl, (ne : Int))) := Lib.hid (by rw [HD1.out, HNE.out])
        clear HD1
        go_wp2_with fail
        refine (implDecL_some Ae ne ce (encL zl) zl 0 nl ne _ HD3.out HOe.out.rz HBYe.out (by omega) (by omega) (by omega) (by omega) (by omega)).mono ?_
        rintro e w8 ⟨Am, nm, cm, rfl, hOm, hb8⟩
        have hnm : nm ≤ 100 := by have h1 := hOm.1; have h2 := HNL.out; omega
        have HOm := Lib.hid hOm
        have HOe8 := Lib.hid (HOe.out.below hb8)
        have HOl8 := Lib.hid (HOl.out.below hb8)
        have HB8 := Lib.hid (HB7.out.trans (hb8.mono HB7.out.size))
        clear hOm hb8
        go_wp2_with fail
        refine (implDecL_none Ae ne ce (encL zl) 0 ((nl : Int) + 1) _ HD2.out HOe8.out.rz HBYe.out (by omega) (by omega) (by omega) (by omega) (by omega)).mono ?_
        rintro e w9 ⟨Az, nz, cz, rfl, hOz, hb9⟩
        have HOm9 := Lib.hid (HOm.out.below hb9)
        have HOl9 := Lib.hid (HOl8.out.below hb9)
        have HB9 := Lib.hid (HB8.out.trans (hb9.mono HB8.out.size))
        clear hOz hb9
        go_wp2_with fail
        refine (sameI Am A' nm nl cm c' _ _ _ HOm9.out.rz HOl9.out.rz rfl (by omega)).mono ?_
        rintro e w10 ⟨rfl, hb10⟩
        have HB10 := Lib.hid (HB9.out.trans (hb10.mono HB9.out.size))
        clear hb10
        go_wp2_with fail
        go_ret
        exact GivesBool.ret HB10.out
  · go_enter Try.func4, Try.ntmps4
    go_wp2_with fail
    refine (big_yes A n c _ hn).mono ?_
    rintro e w' ⟨rfl, rfl⟩
    go_wp2_with fail
    go_ret
    exact GivesBool.ret (Below.refl _ _)
end Go.Proofs.Ytemmikbnkcogfaa
