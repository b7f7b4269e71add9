/- Draws of bytes: l1Bytes; the draws of stage 2's laws. -/
import Derived.Test.YtemmikbnkcogfaaEncS
import Derived.Test.YtemmikbnkcogfaaOpen
namespace Go.Proofs.Ytemmikbnkcogfaa
open Go.RowKit

theorem Turn.step {g : Nat} {w w' : World} (h : Turn g w w') : Step g (g + 1) w w' := ⟨h.os, h.tape, h.output, h.size, fun k hk ho => h.block k hk (by omega)⟩
theorem Cur.low {w w' : World} {B g lo : Nat} (h : Cur w B g) (hb : Below lo w w') (hg : g < lo) : Cur w' B g := by
  obtain ⟨A, n, c, zs, i, hh, hgg, hl, hn, hz, hR, hi, hB⟩ := h
  exact ⟨A, n, c, zs, i, hh, (hb.block g hg).trans hgg, hl, hn, hz, hR.below (hb.mono (by omega)), hi, hB⟩
theorem Turn.low {g lo : Nat} {w w1 w2 : World} (h : Turn g w w1) (hb : Below lo w1 w2) (hl : w.heap.size ≤ lo) : Turn g w w2 :=
  ⟨hb.os.trans h.os, hb.tape.trans h.tape, hb.output.trans h.output, Nat.le_trans h.size hb.size, fun k hk hg => (hb.block k (by omega)).trans (h.block k hk hg)⟩
theorem Left.low {B g lo : Nat} {w w1 w2 : World} (h : Left B g w w1) (hb : Below lo w1 w2) (hl : w.heap.size ≤ lo) (hg : g < lo) : Left B g w w2 := ⟨h.1.low hb hg, h.2.low hb hl⟩
/-- What is owned above the cursor stays. -/
theorem Own.turn {k : IntKind} {E : TypeId} {lo hi : Nat} {w w' : World} {A : Option Addr} {n c g : Nat} {zs : List Int} (h : Own k E lo hi w A n c zs) (ht : Turn g w w') (hg : g < lo) : Own k E lo hi w' A n c zs := h.step ht.step (Or.inr hg)
/-- Bytes that were drawn. -/
def Drawn (m : Nat) (B g : Nat) (w : World) (e : Ending) (w' : World) : Prop :=
  ∃ A n c zs, e = .returned (.slice A n c) ∧ Own .u8 5 w.heap.size w'.heap.size w' A n c zs ∧ Byt zs ∧ n = m ∧ Left B g w w'
theorem Drawn.ret {m B g : Nat} {w w' : World} {A : Option Addr} {n c : Nat} {zs : List Int} (h : Own .u8 5 w.heap.size w'.heap.size w' A n c zs) (hb : Byt zs) (hn : n = m) (hL : Left B g w w') : Drawn m B g w (.returned (.slice A n c)) w' := ⟨A, n, c, zs, rfl, h, hb, hn, hL⟩
theorem Byt.snoc {zs : List Int} {z : Int} (h : Byt zs) (h0 : 0 ≤ z) (h1 : z ≤ 255) : Byt (zs ++ [z]) := h.append (fun y hy => by
  have : y = z := by simpa using hy
  omega)
/-- Midway. -/
def Drawing (B g : Nat) (w : World) (i : Nat) (A : Option Addr) (n c : Nat) (wr : World) : Prop :=
  ∃ zs, Own .u8 5 w.heap.size wr.heap.size wr A n c zs ∧ Byt zs ∧ n = i ∧ Left B g w wr
theorem Drawing.next {B g : Nat} {w wr w1 w2 : World} {i n n' c' : Nat} {A' : Option Addr} {x : Int} {o : Obj} {hi : Nat} {zs : List Int} (hg : g < w.heap.size) (hby : Byt zs) (hn : n = i) (hL : Left B g w wr) (hL1 : Left B g wr w1)
    (hO2 : Own .u8 5 w.heap.size w2.heap.size w2 A' n' c' (zs ++ [x])) (hS : Step w.heap.size hi (w1.alloc o) w2) (hx0 : 0 ≤ x) (hx1 : x ≤ 255) (hn' : n' = n + 1) : Drawing B g w (i + 1) A' n' c' w2 := by
  have hs : w.heap.size ≤ w1.heap.size := Nat.le_trans hL.2.size hL1.2.size
  exact ⟨_, hO2, hby.snoc hx0 hx1, by omega, (hL.trans hL1).low (((Below.refl _ _).alloc hs o).trans (hS.low (by simp; omega))) (Nat.le_refl _) hg⟩
set_option maxRecDepth 100000 in
set_option maxHeartbeats 1000000 in
theorem l1Bytes (B g m : Nat) (w : World) (hc : Cur w B g) (hm : m ≤ 1048576) : Calls Try.prog 42 #[.pointer (some ⟨g, 0, none⟩), .int .i64 m] w (Drawn m B g w) := by
  obtain ⟨i0, hi, hz0, hz1, hz2⟩ := info_parts infoB
  have hg := hc.lt
  have hst : Drawing B g w 0 (some ⟨w.heap.size, 0, none⟩) 0 0 (w.alloc (.cells #[] 5)) :=
    ⟨[], (Own.none_ .u8 5 w).more (by simp) (Nat.le_refl _), Byt.nil, rfl, hc.alloc' _, (Turn.refl _ _).alloc _⟩
  have HST := Lib.hid hst
  clear hst hc
  go_enter Try.func42, Try.ntmps42
  go_wp2_with fail
  go_loopw [5, 6] (fun sv iv wr => ∃ (A : Option Addr) (n c i : Nat), sv = .slice A n c ∧ iv = .int .i64 i ∧ i ≤ m ∧ Drawing B g w i A n c wr) (fun _ iv _ => m - (intOf iv).toNat)
  case atStart => exact ⟨_, _, _, 0, rfl, rfl, Nat.zero_le _, HST.out⟩
  case round =>
    obtain ⟨A, n, c, i, rfl, rfl, him, hD⟩ := hrel
    obtain ⟨zs, hO, hby, hni, hL⟩ := hD
    have HO := Lib.hid hO
    have HBY := Lib.hid hby
    have HNI := Lib.hid hni
    have HL := Lib.hid hL
    have hn1 : n ≤ m := by omega
    have hs := hL.2.size
    clear hO hby hni hL
    by_cases hlt : i < m
    · go_wp2_with fail
      refine (l1Byte B g _ HL.out.1).mono ?_
      rintro e w1 ⟨x, hx0, hx1, rfl, hL1⟩
      have HL1 := Lib.hid hL1
      have HO1 := Lib.hid (HO.out.turn hL1.2 hg)
      have hs1 := hL1.2.size
      clear hL1
      go_wp2_with (at_builtin; refine wpList_append_rz _ rfl _ _ 22 rfl .u8 5 i0 0 1 Try.underlying22 hi hz0 hz1 hz2 w.heap.size wr.heap.size A n c _ rfl (HO1.out.alloc _) _ 1 1 [_] rfl (Rz.one _ _ _ _) (by unfold maxLen; omega) (by omega) (by simp; omega) ?_; intro A2 c2 w2 hO2 hS2; have HO2 := Lib.hid hO2; have HS2 := Lib.hid hS2; clear hO2 hS2)
      have hN := Drawing.next hg HBY.out HNI.out HL.out HL1.out HO2.out HS2.out hx0 hx1 rfl
      clear HO2 HS2
      go_roundw
      case rel => exact ⟨A2, n + 1, c2, i + 1, rfl, by go_num, by omega, hN⟩
      case measure => simp [intOf]; omega
    · obtain rfl : i = m := by omega
      go_wp2_with fail
      go_ret
      exact Drawn.ret HO.out HBY.out HNI.out HL.out
/-- A slice of bytes and a number were drawn. -/
def DrewBI (w : World) (e : Ending) (w' : World) : Prop :=
  ∃ A n c zs, ∃ x : Int, e = .returned (.tuple #[.slice A n c, .int .i64 x]) ∧ Own .u8 5 w.heap.size w'.heap.size w' A n c zs ∧ Byt zs ∧ n ≤ 1048576 ∧ -9223372036854775808 ≤ x ∧ x ≤ 9223372036854775807 ∧ Below w.heap.size w w'
theorem DrewBI.ret {w w' : World} {A : Option Addr} {n c lo hi : Nat} {zs : List Int} {x : Int} (h : Own .u8 5 lo hi w' A n c zs) (hl : w.heap.size ≤ lo) (hb : Byt zs) (hn : n ≤ 1048576) (h0 : -9223372036854775808 ≤ x) (h1 : x ≤ 9223372036854775807) (hB : Below w.heap.size w w') :
    DrewBI w (.returned (.tuple #[.slice A n c, .int .i64 x])) w' := by
  have hs := h.2.2.1
  exact ⟨A, n, c, zs, x, rfl, (h.more hs (Nat.le_refl _)).less hl, hb, hn, h0, h1, hB⟩
/-- Two slices of bytes were drawn. -/
def DrewBB (w : World) (e : Ending) (w' : World) : Prop :=
  ∃ A n c zs A' n' c' zs', e = .returned (.tuple #[.slice A n c, .slice A' n' c']) ∧ Rz .u8 w' A n zs ∧ Byt zs ∧ n ≤ 1048576 ∧ Rz .u8 w' A' n' zs' ∧ Byt zs' ∧ n' ≤ 1048576 ∧ Below w.heap.size w w'
theorem DrewBB.ret {w w' : World} {A A' : Option Addr} {n c n' c' : Nat} {zs zs' : List Int} (h : Rz .u8 w' A n zs) (hb : Byt zs) (hn : n ≤ 1048576) (h' : Rz .u8 w' A' n' zs') (hb' : Byt zs') (hn' : n' ≤ 1048576) (hB : Below w.heap.size w w') :
    DrewBB w (.returned (.tuple #[.slice A n c, .slice A' n' c'])) w' := ⟨A, n, c, zs, A', n', c', zs', rfl, h, hb, hn, h', hb', hn', hB⟩
theorem Left.below {B g : Nat} {w w' : World} (h : Left B g w w') (hB : B ≤ g) (hs : B ≤ w.heap.size) : Below B w w' := h.2.below hB hs
theorem Cur.ge {w : World} {B g : Nat} (h : Cur w B g) : B ≤ g := by
  obtain ⟨A, n, c, zs, i, hh, hgg, hl, hn, hz, hR, hi, hB⟩ := h
  exact hB
theorem wide_in {x : Int} (h0 : -wide ≤ x) (h1 : x ≤ wide - 1) : -9223372036854775808 ≤ x ∧ x ≤ 9223372036854775807 := by unfold wide at h0 h1; omega
set_option maxHeartbeats 1000000 in
theorem drawAppU (A : Option Addr) (n c : Nat) (w : World) (hC : Code w A n) (hn : n ≤ 1048576) : Calls Try.prog 13 #[.slice A n c] w (DrewBI w) := by
  have HC := Lib.hid hC
  clear hC
  go_enter Try.func13, Try.ntmps13
  go_wp2_with fail
  refine (l1New A n c _ HC.out hn).mono ?_
  rintro e w1 ⟨g, rfl, hcur, hb1⟩
  have hgB := hcur.ge
  have hs1 := hb1.size
  have hg1 := hcur.lt
  have HCUR := Lib.hid hcur
  have HB1 := Lib.hid hb1
  clear hcur hb1
  go_wp2_with fail
  refine (l1Below w.heap.size g 3 _ (by omega) (by omega) HCUR.out).mono ?_
  rintro e w2 ⟨x, hx0, hx1, rfl, hL2⟩
  obtain ⟨m, rfl⟩ : ∃ m : Nat, x = m := ⟨x.toNat, by omega⟩
  have hs2 := hL2.2.size
  have HL2 := Lib.hid hL2
  clear hL2
  go_wp2_with fail
  refine (l1Bytes w.heap.size g m _ HL2.out.1 (by omega)).mono ?_
  rintro e w3 ⟨A3, n3, c3, zs3, rfl, hO3, hby3, hn3, hL3⟩
  have hs3 := hL3.2.size
  have hn3' : n3 ≤ 2 := by omega
  have HO3 := Lib.hid hO3
  have HL3 := Lib.hid hL3
  have HBY3 := Lib.hid hby3
  clear hO3 hL3 hby3 hn3
  go_wp2_with fail
  refine (l1One w.heap.size g _ HL3.out.1).mono ?_
  rintro e w4 ⟨x, hx0, hx1, rfl, hL4⟩
  have hs4 := hL4.2.size
  have HO4 := Lib.hid (HO3.out.turn hL4.2 (by omega))
  have HL := Lib.hid ((HL2.out.trans HL3.out).trans hL4)
  have hw := wide_in hx0 hx1
  clear hL4
  go_wp2_with fail
  go_ret2
  exact DrewBI.ret HO4.out (by omega) HBY3.out (by omega) hw.1 hw.2 (HB1.out.trans (HL.out.below hgB hs1))
set_option maxHeartbeats 1000000 in
theorem drawAppB (A : Option Addr) (n c : Nat) (w : World) (hC : Code w A n) (hn : n ≤ 1048576) : Calls Try.prog 19 #[.slice A n c] w (DrewBB w) := by
  have HC := Lib.hid hC
  clear hC
  go_enter Try.func19, Try.ntmps19
  go_wp2_with fail
  refine (l1New A n c _ HC.out hn).mono ?_
  rintro e w1 ⟨g, rfl, hcur, hb1⟩
  have hgB := hcur.ge
  have hs1 := hb1.size
  have hg1 := hcur.lt
  have HCUR := Lib.hid hcur
  have HB1 := Lib.hid hb1
  clear hcur hb1
  go_wp2_with fail
  refine (l1Below w.heap.size g 3 _ (by omega) (by omega) HCUR.out).mono ?_
  rintro e w2 ⟨x, hx0, hx1, rfl, hL2⟩
  obtain ⟨m, rfl⟩ : ∃ m : Nat, x = m := ⟨x.toNat, by omega⟩
  have hs2 := hL2.2.size
  have HL2 := Lib.hid hL2
  clear hL2
  go_wp2_with fail
  refine (l1Bytes w.heap.size g m _ HL2.out.1 (by omega)).mono ?_
  rintro e w3 ⟨A3, n3, c3, zs3, rfl, hO3, hby3, hn3, hL3⟩
  have hs3 := hL3.2.size
  have hn3' : n3 ≤ 2 := by omega
  have HO3 := Lib.hid hO3
  have HL3 := Lib.hid hL3
  have HBY3 := Lib.hid hby3
  clear hO3 hL3 hby3 hn3
  go_wp2_with fail
  refine (l1Below w.heap.size g 6 _ (by omega) (by omega) HL3.out.1).mono ?_
  rintro e w4 ⟨x, hx0, hx1, rfl, hL4⟩
  obtain ⟨m', rfl⟩ : ∃ m : Nat, x = m := ⟨x.toNat, by omega⟩
  have hs4 := hL4.2.size
  have HO4 := Lib.hid (HO3.out.turn hL4.2 (by omega))
  have HL4 := Lib.hid hL4
  clear hL4
  go_wp2_with fail
  refine (l1Bytes w.heap.size g m' _ HL4.out.1 (by omega)).mono ?_
  rintro e w5 ⟨A5, n5, c5, zs5, rfl, hO5, hby5, hn5, hL5⟩
  have hn5' : n5 ≤ 5 := by omega
  have HO5 := Lib.hid hO5
  have HO6 := Lib.hid (HO4.out.turn hL5.2 (by omega))
  have HBY5 := Lib.hid hby5
  have HL := Lib.hid (((HL2.out.trans HL3.out).trans HL4.out).trans hL5)
  clear hO5 hL5 hby5 hn5
  go_wp2_with fail
  go_ret2
  exact DrewBB.ret HO6.out.rz HBY3.out (by omega) HO5.out.rz HBY5.out (by omega) (HB1.out.trans (HL.out.below hgB hs1))
/-- Midway in a draw that lays bytes: the cursor was made by this call. -/
def Midway (w : World) (g lo m : Nat) (A : Option Addr) (n c : Nat) (wr : World) : Prop :=
  ∃ zs, Own .u8 5 lo wr.heap.size wr A n c zs ∧ Byt zs ∧ n ≤ m ∧ Cur wr w.heap.size g ∧ Below w.heap.size w wr ∧ lo ≤ wr.heap.size
theorem Midway.next {w wr w1 w2 : World} {g lo m n n' c' : Nat} {A' : Option Addr} {x : Int} {o : Obj} {hi : Nat} {zs : List Int} (hg : g < lo) (hgB : w.heap.size ≤ g) (hby : Byt zs) (hn : n ≤ m) (hB : Below w.heap.size w wr) (hL1 : Left w.heap.size g wr w1) (hl : lo ≤ wr.heap.size)
    (hO2 : Own .u8 5 lo w2.heap.size w2 A' n' c' (zs ++ [x])) (hS : Step lo hi (w1.alloc o) w2) (hx0 : 0 ≤ x) (hx1 : x ≤ 255) (hn' : n' = n + 1) : Midway w g lo (m + 1) A' n' c' w2 := by
  have hs : lo ≤ w1.heap.size := Nat.le_trans hl hL1.2.size
  have hb2 : Below lo w1 w2 := ((Below.refl _ _).alloc hs o).trans (hS.low (by simp; omega))
  exact ⟨_, hO2, hby.snoc hx0 hx1, by omega, hL1.1.low hb2 hg, (hB.trans (hL1.below hgB hB.size)).trans (hb2.mono (by omega)), Nat.le_trans hs hb2.size⟩
set_option maxRecDepth 100000 in
set_option maxHeartbeats 2000000 in
theorem drawReadU (A : Option Addr) (n c : Nat) (w : World) (hC : Code w A n) (hn : n ≤ 1048576) : Calls Try.prog 17 #[.slice A n c] w (DrewBI w) := by
  obtain ⟨i0, hi, hz0, hz1, hz2⟩ := info_parts infoB
  have HC := Lib.hid hC
  clear hC
  go_enter Try.func17, Try.ntmps17
  go_wp2_with fail
  refine (l1New A n c _ HC.out hn).mono ?_
  rintro e w1 ⟨g, rfl, hcur, hb1⟩
  have hgB := hcur.ge
  have hs1 := hb1.size
  have hg1 := hcur.lt
  have HCUR := Lib.hid hcur
  have HB1 := Lib.hid hb1
  clear hcur hb1
  go_wp2_with fail
  refine (l1Once w.heap.size g 2 _ (by omega) (by omega) HCUR.out).mono ?_
  rintro e w2 ⟨b, rfl, hL2⟩
  have hs2 := hL2.2.size
  have HL2 := Lib.hid hL2
  clear hL2
  cases b
  · go_wp2_with fail
    refine (l1Below w.heap.size g 8 _ (by omega) (by omega) (HL2.out.1.alloc' _)).mono ?_
    rintro e w3 ⟨x, hx0, hx1, rfl, hL3⟩
    obtain ⟨m, rfl⟩ : ∃ m : Nat, x = m := ⟨x.toNat, by omega⟩
    have hs3 := hL3.2.size
    have hM : Midway w g w2.heap.size 0 (some ⟨w2.heap.size, 0, none⟩) 0 0 w3 := by
      refine ⟨[], ?_, Byt.nil, by omega, hL3.1, HB1.out.trans ((HL2.out.below hgB hs1).trans (((Below.refl _ _).alloc (by omega) _).trans (hL3.below hgB (by simp; omega)))), by simp only [World.size_alloc] at hs3; omega⟩
      exact ((Own.none_ .u8 5 w2).turn hL3.2 (by omega)).more (by simpa using hs3) (Nat.le_refl _)
    have HM := Lib.hid hM
    simp only [World.size_alloc] at hs3
    clear hM hL3
    go_wp2_with fail
    go_loopw [5, 6] (fun sv iv wr => ∃ (A : Option Addr) (n c i : Nat), sv = .slice A n c ∧ iv = .int .i64 i ∧ i ≤ m ∧ Midway w g w2.heap.size (m - i) A n c wr) (fun _ iv _ => (intOf iv).toNat)
    case atStart => exact ⟨_, _, _, m, rfl, rfl, Nat.le_refl _, by rw [Nat.sub_self]; exact HM.out⟩
    case round =>
      obtain ⟨A, n, c, i, rfl, rfl, him, hD⟩ := hrel
      obtain ⟨zs, hO, hby, hni, hcu, hB, hl⟩ := hD
      have hn1 : n ≤ 7 := by omega
      have HO := Lib.hid hO
      have HBY := Lib.hid hby
      have HCU := Lib.hid hcu
      have HB := Lib.hid hB
      have hsw := hB.size
      clear hO hby hcu hB
      by_cases hlt : 0 < i
      · go_wp2_with fail
        refine (l1Int_new w.heap.size g [128, 255, 0, 1, 127] 5 0 255 _ rfl (by intro z hz; simp at hz; omega) (by omega) (by omega) HCU.out _ rfl _).mono ?_
        rintro e w4 ⟨x, hx0, hx1, rfl, hL4⟩
        have HL4 := Lib.hid hL4
        have HO4 := Lib.hid (HO.out.turn hL4.2 (by omega))
        have hs4 := hL4.2.size
        clear hL4
        go_wp2_with (at_builtin; refine wpList_append_rz _ rfl _ _ 22 rfl .u8 5 i0 0 1 Try.underlying22 hi hz0 hz1 hz2 w2.heap.size wr.heap.size A n c _ rfl (HO4.out.alloc _) _ 1 1 [_] rfl (Rz.one _ _ _ _) (by unfold maxLen; omega) (by omega) (by simp; omega) ?_; intro A5 c5 w5 hO5 hS5; have HO5 := Lib.hid hO5; have HS5 := Lib.hid hS5; clear hO5 hS5)
        have hN := Midway.next (by omega) hgB HBY.out hni HB.out HL4.out hl HO5.out HS5.out hx0 hx1 rfl
        rw [show m - i + 1 = m - (i - 1) by omega] at hN
        have HN := Lib.hid hN
        clear HO5 HS5 hN
        go_roundw
        case rel => exact ⟨A5, n + 1, c5, i - 1, rfl, by congr 1; omega, by omega, HN.out⟩
        case measure => simp [intOf]; omega
      · obtain rfl : i = 0 := by omega
        go_wp2_with fail
        refine (l1Below w.heap.size g 4 _ (by omega) (by omega) HCU.out).mono ?_
        rintro e w4 ⟨x, hx0, hx1, rfl, hL4⟩
        have HO4 := Lib.hid (HO.out.turn hL4.2 (by omega))
        have HL4 := Lib.hid hL4
        clear hL4
        go_wp2_with fail
        go_ret2
        exact DrewBI.ret HO4.out (by omega) HBY.out (by omega) (by omega) (by omega) (HB.out.trans (HL4.out.below hgB hsw))
  · go_wp2_with fail
    refine (l1Bytes w.heap.size g 1 _ HL2.out.1 (by omega)).mono ?_
    rintro e w3 ⟨A3, n3, c3, zs3, rfl, hO3, hby3, rfl, hL3⟩
    have hs3 := hL3.2.size
    have HO3 := Lib.hid hO3
    have HL3 := Lib.hid hL3
    have HBY3 := Lib.hid hby3
    have hln := hO3.1
    clear hO3 hL3 hby3
    go_wp2_with fail
    refine (l1Num w.heap.size g _ HL3.out.1).mono ?_
    rintro e w4 ⟨x, hx0, hx1, rfl, hL4⟩
    have hs4 := hL4.2.size
    have HO4 := Lib.hid (HO3.out.turn hL4.2 (by omega))
    have HL := Lib.hid ((HL2.out.trans HL3.out).trans hL4)
    clear hL4
    go_wp2_with fail
    refine (specAppU A3 1 c3 zs3 x _ HO4.out.rz (by omega) (by omega) (by omega)).mono ?_
    rintro e w5 ⟨A5, n5, c5, rfl, hO5, hb5⟩
    have hn5 : n5 ≤ 7 := by
      have h1 := hO5.1
      have h2 := encU_len x
      simp only [List.length_append] at h1
      omega
    have HO5 := Lib.hid hO5
    have HB5 := Lib.hid hb5
    clear hO5 hb5
    go_wp2_with fail
    go_ret2
    exact DrewBI.ret HO5.out (by omega) (HBY3.out.append (encU_byt x)) (by omega) (by omega) (by omega) ((HB1.out.trans (HL.out.below hgB hs1)).trans (HB5.out.mono (by omega)))
end Go.Proofs.Ytemmikbnkcogfaa
