/- The draws of stage 3's laws. -/
import Derived.Test.YtkbenfnmigkclaaDrawB
import Derived.Test.YtkbenfnmigkclaaHelp
namespace Go.Proofs.Ytkbenfnmigkclaa
open Go.RowKit
/-- A word: no great number. -/
def Wrd (z : Int) : Prop := -1 ≤ z ∧ z ≤ 2147483648
theorem word_prod {x y : Int} (a : 0 ≤ x) (b : x ≤ 999999) (c : 0 ≤ y) (d : y ≤ 1999) : 0 ≤ x * y ∧ x * y ≤ 1998998001 := by
  refine ⟨Int.mul_nonneg a c, ?_⟩
  have h1 : x * y ≤ 999999 * y := Int.mul_le_mul_of_nonneg_right b c
  omega
def Word (B g : Nat) (w : World) (e : Ending) (w' : World) : Prop := Num (-1) 2147483648 B g w e w'
theorem Word.ret {x : Int} {B g : Nat} {w w' : World} (h1 : -1 ≤ x) (h2 : x ≤ 2147483648) (h : Left B g w w') : Word B g w (.returned (.int .i64 x)) w' := ⟨x, h1, h2, rfl, h⟩
set_option maxHeartbeats 1000000 in
theorem l3Word (B g : Nat) (w : World) (hc : Cur w B g) : Calls Try.prog 45 #[.pointer (some ⟨g, 0, none⟩)] w (Word B g w) := by
  go_enter Try.func45, Try.ntmps45
  go_wp2_with fail
  refine (l1Once B g 10 _ (by omega) (by omega) hc).mono ?_
  rintro e w1 ⟨b, rfl, hL1⟩
  cases b
  · go_wp2_with fail
    refine (l1Once B g 4 _ (by omega) (by omega) hL1.1).mono ?_
    rintro e w2 ⟨b, rfl, hL2⟩
    cases b
    · go_wp2_with fail
      refine (l1Below B g 1000000 _ (by omega) (by omega) hL2.1).mono ?_
      rintro e w3 ⟨x, hx0, hx1, rfl, hL3⟩
      go_wp2_with fail
      refine (l1Below B g 2000 _ (by omega) (by omega) hL3.1).mono ?_
      rintro e w4 ⟨y, hy0, hy1, rfl, hL4⟩
      obtain ⟨hp0, hp1⟩ := word_prod hx0 (by omega) hy0 (by omega)
      go_wp2_with fail
      go_ret
      exact Word.ret (by omega) (by omega) (((hL1.trans hL2).trans hL3).trans hL4)
    · go_wp2_with fail
      refine (l1Int_new B g [0, 1, 2147483646] 3 (-1) 2147483648 _ rfl (by intro z hz; simp at hz; omega) (by omega) (by omega) hL2.1 _ rfl _).mono ?_
      rintro e w3 ⟨x, hx0, hx1, rfl, hL3⟩
      go_wp2_with fail
      go_ret
      exact Word.ret hx0 hx1 ((hL1.trans hL2).trans hL3)
  · go_wp2_with fail
    refine (l1Int_new B g [-1, 2147483647, 2147483648] 3 (-1) 2147483648 _ rfl (by intro z hz; simp at hz; omega) (by omega) (by omega) hL1.1 _ rfl _).mono ?_
    rintro e w2 ⟨x, hx0, hx1, rfl, hL2⟩
    go_wp2_with fail
    go_ret
    exact Word.ret hx0 hx1 (hL1.trans hL2)
/-- Words that were drawn. -/
def Words (B g : Nat) (w : World) (e : Ending) (w' : World) : Prop :=
  ∃ A n c zs, e = .returned (.slice A n c) ∧ Own .i64 3 w.heap.size w'.heap.size w' A n c zs ∧ (∀ z ∈ zs, Wrd z) ∧ n ≤ 4 ∧ Left B g w w'
theorem Words.ret {B g : Nat} {w w' : World} {A : Option Addr} {n c : Nat} {zs : List Int} (h : Own .i64 3 w.heap.size w'.heap.size w' A n c zs) (hb : ∀ z ∈ zs, Wrd z) (hn : n ≤ 4) (hL : Left B g w w') : Words B g w (.returned (.slice A n c)) w' := ⟨A, n, c, zs, rfl, h, hb, hn, hL⟩
/-- Midway: i words are wanted still. -/
def Wording (B g : Nat) (w : World) (i : Nat) (A : Option Addr) (n c : Nat) (wr : World) : Prop :=
  ∃ zs, Own .i64 3 w.heap.size wr.heap.size wr A n c zs ∧ (∀ z ∈ zs, Wrd z) ∧ n + i ≤ 4 ∧ Left B g w wr
theorem Wording.next {B g : Nat} {w wr w1 w2 : World} {i n n' c' : Nat} {A' : Option Addr} {x : Int} {o : Obj} {hi : Nat} {zs : List Int} (hg : g < w.heap.size) (hby : ∀ z ∈ zs, Wrd z) (hn : n + (i + 1) ≤ 4) (hL : Left B g w wr) (hL1 : Left B g wr w1)
    (hO2 : Own .i64 3 w.heap.size w2.heap.size w2 A' n' c' (zs ++ [x])) (hS : Step w.heap.size hi (w1.alloc o) w2) (hx0 : -1 ≤ x) (hx1 : x ≤ 2147483648) (hn' : n' = n + 1) : Wording B g w i A' n' c' w2 := by
  have hs : w.heap.size ≤ w1.heap.size := Nat.le_trans hL.2.size hL1.2.size
  refine ⟨_, hO2, fun z hz => ?_, by omega, (hL.trans hL1).low (((Below.refl _ _).alloc hs o).trans (hS.low (by simp; omega))) (Nat.le_refl _) hg⟩
  rcases List.mem_append.1 hz with h | h
  · exact hby z h
  · obtain rfl : z = x := by simpa using h
    exact ⟨hx0, hx1⟩
set_option maxRecDepth 100000 in
set_option maxHeartbeats 1000000 in
theorem l3Words (B g : Nat) (w : World) (hc : Cur w B g) : Calls Try.prog 50 #[.pointer (some ⟨g, 0, none⟩)] w (Words B g w) := by
  obtain ⟨i0, hi, hz0, hz1, hz2⟩ := info_parts infoI
  have hg := hc.lt
  have hc1 := Lib.hid (hc.alloc' (.cells #[] 3))
  have ht : Turn g w (w.alloc (.cells #[] 3)) := (Turn.refl _ _).alloc _
  have HT := Lib.hid ht
  have O1 := Lib.hid ((Own.none_ .i64 3 w).more (hi' := (w.alloc (.cells #[] 3)).heap.size) (by simp) (Nat.le_refl _))
  clear hc ht
  go_enter Try.func50, Try.ntmps50
  go_wp2_with fail
  refine (l1Below B g 5 _ (by omega) (by omega) hc1.out).mono ?_
  rintro e w1 ⟨x, hx0, hx1, rfl, hL1⟩
  obtain ⟨m, rfl⟩ : ∃ m : Nat, x = m := ⟨x.toNat, by omega⟩
  have hst : Wording B g w m (some ⟨w.heap.size, 0, none⟩) 0 0 w1 := by
    have h1 := O1.out.turn hL1.2 hg
    exact ⟨[], h1.more hL1.2.size (Nat.le_refl _), (fun z h => by cases h), by omega, hL1.1, HT.out.trans hL1.2⟩
  have HST := Lib.hid hst
  clear hst hL1
  go_wp2_with fail
  go_loopw [3, 4] (fun sv iv wr => ∃ (A : Option Addr) (n c i : Nat), sv = .slice A n c ∧ iv = .int .i64 i ∧ i ≤ 4 ∧ Wording B g w i A n c wr) (fun _ iv _ => (intOf iv).toNat)
  case atStart => exact ⟨_, _, _, m, rfl, rfl, by omega, HST.out⟩
  case round =>
    obtain ⟨A, n, c, i, rfl, rfl, him, hD⟩ := hrel
    obtain ⟨zs, hO, hby, hni, hL⟩ := hD
    have HO := Lib.hid hO
    have HBY := Lib.hid hby
    have HL := Lib.hid hL
    have hn1 : n ≤ 4 := by omega
    have hs := hL.2.size
    clear hO hby hL
    by_cases hlt : 0 < i
    · obtain ⟨i, rfl⟩ : ∃ j, i = j + 1 := ⟨i - 1, by omega⟩
      go_wp2_with fail
      refine (l3Word B g _ HL.out.1).mono ?_
      rintro e w2 ⟨x, hx0, hx1, rfl, hL2⟩
      have HL2 := Lib.hid hL2
      have HO1 := Lib.hid (HO.out.turn hL2.2 hg)
      have hs1 := hL2.2.size
      clear hL2
      go_wp2_with (at_builtin; refine wpList_append_rz _ rfl _ _ 28 rfl .i64 3 i0 0 8 Try.underlying28 hi hz0 hz1 hz2 w.heap.size wr.heap.size A n c _ rfl (HO1.out.alloc _) _ 1 1 [_] rfl (Rz.one _ _ _ _) (by unfold maxLen; omega) (by omega) (by simp; omega) ?_; intro A2 c2 w3 hO2 hS2; have HO2 := Lib.hid hO2; have HS2 := Lib.hid hS2; clear hO2 hS2)
      have hN := Wording.next hg HBY.out hni HL.out HL2.out HO2.out HS2.out hx0 hx1 rfl
      clear HO2 HS2
      go_roundw
      case rel => exact ⟨A2, n + 1, c2, i, rfl, by go_num, by omega, hN⟩
      case measure => simp [intOf]
    · obtain rfl : i = 0 := by omega
      go_wp2_with fail
      go_ret
      exact Words.ret HO.out HBY.out hn1 HL.out
/-- A key and bytes were drawn. -/
def DrewKB (w : World) (e : Ending) (w' : World) : Prop :=
  ∃ k A n c zs, e = .returned (.tuple #[.int .i64 k, .slice A n c]) ∧ Wrd k ∧ Rz .u8 w' A n zs ∧ Byt zs ∧ n ≤ 7 ∧ Below w.heap.size w w'
theorem DrewKB.ret {w w' : World} {k : Int} {A : Option Addr} {n c : Nat} {zs : List Int} (hk0 : -1 ≤ k) (hk1 : k ≤ 2147483648) (h : Rz .u8 w' A n zs) (hb : Byt zs) (hn : n ≤ 7) (hB : Below w.heap.size w w') :
    DrewKB w (.returned (.tuple #[.int .i64 k, .slice A n c])) w' := ⟨k, A, n, c, zs, rfl, ⟨hk0, hk1⟩, h, hb, hn, hB⟩
set_option maxHeartbeats 1000000 in
theorem drawEnc (A : Option Addr) (n c : Nat) (w : World) (hC : Code w A n) (hn : n ≤ 1048576) : Calls Try.prog 14 #[.slice A n c] w (DrewKB w) := by
  have HC := Lib.hid hC
  clear hC
  go_enter Try.func14, Try.ntmps14
  go_wp2_with fail
  refine (l1New A n c _ HC.out hn).mono ?_
  rintro e w1 ⟨g, rfl, hcur, hb1⟩
  have hgB := hcur.ge
  have hs1 := hb1.size
  have HCUR := Lib.hid hcur
  have HB1 := Lib.hid hb1
  clear hcur hb1
  go_wp2_with fail
  refine (l3Word w.heap.size g _ HCUR.out).mono ?_
  rintro e w2 ⟨k, hk0, hk1, rfl, hL2⟩
  have HL2 := Lib.hid hL2
  clear hL2
  go_wp2_with fail
  refine (l1Below w.heap.size g 8 _ (by omega) (by omega) HL2.out.1).mono ?_
  rintro e w3 ⟨x, hx0, hx1, rfl, hL3⟩
  obtain ⟨m, rfl⟩ : ∃ m : Nat, x = m := ⟨x.toNat, by omega⟩
  have HL3 := Lib.hid hL3
  clear hL3
  go_wp2_with fail
  refine (l1Bytes w.heap.size g m _ HL3.out.1 (by omega)).mono ?_
  rintro e w4 ⟨A4, n4, c4, zs4, rfl, hO4, hby4, hn4, hL4⟩
  have hn4' : n4 ≤ 7 := by omega
  have HO4 := Lib.hid hO4
  have HBY4 := Lib.hid hby4
  have HL := Lib.hid ((HL2.out.trans HL3.out).trans hL4)
  clear hO4 hL4 hby4 hn4
  go_wp2_with fail
  go_ret2
  exact DrewKB.ret hk0 hk1 HO4.out.rz HBY4.out hn4' (HB1.out.trans (HL.out.below hgB hs1))
/-- A key and words were drawn. -/
def DrewKW (w : World) (e : Ending) (w' : World) : Prop :=
  ∃ k A n c zs, e = .returned (.tuple #[.int .i64 k, .slice A n c]) ∧ Wrd k ∧ Rz .i64 w' A n zs ∧ (∀ z ∈ zs, Wrd z) ∧ n ≤ 4 ∧ Below w.heap.size w w'
theorem DrewKW.ret {w w' : World} {k : Int} {A : Option Addr} {n c : Nat} {zs : List Int} (hk0 : -1 ≤ k) (hk1 : k ≤ 2147483648) (h : Rz .i64 w' A n zs) (hb : ∀ z ∈ zs, Wrd z) (hn : n ≤ 4) (hB : Below w.heap.size w w') :
    DrewKW w (.returned (.tuple #[.int .i64 k, .slice A n c])) w' := ⟨k, A, n, c, zs, rfl, ⟨hk0, hk1⟩, h, hb, hn, hB⟩
set_option maxHeartbeats 1000000 in
theorem drawKHash (A : Option Addr) (n c : Nat) (w : World) (hC : Code w A n) (hn : n ≤ 1048576) : Calls Try.prog 18 #[.slice A n c] w (DrewKW w) := by
  have HC := Lib.hid hC
  clear hC
  go_enter Try.func18, Try.ntmps18
  go_wp2_with fail
  refine (l1New A n c _ HC.out hn).mono ?_
  rintro e w1 ⟨g, rfl, hcur, hb1⟩
  have hgB := hcur.ge
  have hs1 := hb1.size
  have HCUR := Lib.hid hcur
  have HB1 := Lib.hid hb1
  clear hcur hb1
  go_wp2_with fail
  refine (l3Word w.heap.size g _ HCUR.out).mono ?_
  rintro e w2 ⟨k, hk0, hk1, rfl, hL2⟩
  have HL2 := Lib.hid hL2
  clear hL2
  go_wp2_with fail
  refine (l3Words w.heap.size g _ HL2.out.1).mono ?_
  rintro e w4 ⟨A4, n4, c4, zs4, rfl, hO4, hby4, hn4, hL4⟩
  have HO4 := Lib.hid hO4
  have HBY4 := Lib.hid hby4
  have HL := Lib.hid (HL2.out.trans hL4)
  clear hO4 hL4 hby4
  go_wp2_with fail
  go_ret2
  exact DrewKW.ret hk0 hk1 HO4.out.rz HBY4.out hn4 (HB1.out.trans (HL.out.below hgB hs1))
/-- A key and a string were drawn. -/
def DrewKS (w : World) (e : Ending) (w' : World) : Prop :=
  ∃ k s, e = .returned (.tuple #[.int .i64 k, .string s]) ∧ Wrd k ∧ s.size ≤ 4 ∧ Below w.heap.size w w'
theorem DrewKS.ret {w w' : World} {k : Int} {s : ByteArray} (hk0 : -1 ≤ k) (hk1 : k ≤ 2147483648) (hn : s.size ≤ 4) (hB : Below w.heap.size w w') :
    DrewKS w (.returned (.tuple #[.int .i64 k, .string s])) w' := ⟨k, s, rfl, ⟨hk0, hk1⟩, hn, hB⟩
set_option maxHeartbeats 1000000 in
theorem drawDer (A : Option Addr) (n c : Nat) (w : World) (hC : Code w A n) (hn : n ≤ 1048576) : Calls Try.prog 23 #[.slice A n c] w (DrewKS w) := by
  have HC := Lib.hid hC
  clear hC
  go_enter Try.func23, Try.ntmps23
  go_wp2_with fail
  refine (l1New A n c _ HC.out hn).mono ?_
  rintro e w1 ⟨g, rfl, hcur, hb1⟩
  have hgB := hcur.ge
  have hs1 := hb1.size
  have HCUR := Lib.hid hcur
  have HB1 := Lib.hid hb1
  clear hcur hb1
  go_wp2_with fail
  refine (l3Word w.heap.size g _ HCUR.out).mono ?_
  rintro e w2 ⟨k, hk0, hk1, rfl, hL2⟩
  have HL2 := Lib.hid hL2
  clear hL2
  go_wp2_with fail
  refine (l1Str_new w.heap.size g [⟨#[]⟩, ⟨#[97]⟩, ⟨#[98]⟩, ⟨#[97, 98]⟩, ⟨#[110, 101, 119, 115]⟩, ⟨#[120]⟩] 6 4 _ rfl (by intro z hz; simp at hz; rcases hz with rfl | rfl | rfl | rfl | rfl | rfl <;> decide) (by omega) (by omega) HL2.out.1 _ rfl _).mono ?_
  rintro e w4 ⟨s, hs4, rfl, hL4⟩
  have HL := Lib.hid (HL2.out.trans hL4)
  clear hL4
  go_wp2_with fail
  go_ret2
  exact DrewKS.ret hk0 hk1 hs4 (HB1.out.trans (HL.out.below hgB hs1))
end Go.Proofs.Ytkbenfnmigkclaa
