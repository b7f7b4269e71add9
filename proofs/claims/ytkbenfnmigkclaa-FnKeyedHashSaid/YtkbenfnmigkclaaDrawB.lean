/- Draws of bytes: l1Bytes; the draws of stage 2's laws. -/
import Derived.Test.YtkbenfnmigkclaaEncS
import Derived.Test.YtkbenfnmigkclaaOpen
namespace Go.Proofs.Ytkbenfnmigkclaa
open Go.RowKit

theorem Turn.step {g : Nat} {w w' : World} (h : Turn g w w') : Step g (g + 1) w w' := ⟨h.os, h.tape, h.output, h.size, fun k hk ho => h.block k hk (by omega)⟩
theorem Cur.low {w w' : World} {B g lo : Nat} (h : Cur w B g) (hb : Below lo w w') (hg : g < lo) : Cur w' B g := by
  obtain ⟨A, n, c, zs, i, hh, hgg, hl, hn, hz, hR, hi, hB⟩ := h
  exact ⟨A, n, c, zs, i, hh, (hb.block g hg).trans hgg, hl, hn, hz, hR.below (hb.mono (by omega)), hi, hB⟩
theorem Turn.low {g lo : Nat} {w w1 w2 : World} (h : Turn g w w1) (hb : Below lo w1 w2) (hl : w.heap.size ≤ lo) : Turn g w w2 :=
  ⟨hb.os.trans h.os, hb.tape.trans h.tape, hb.output.trans h.output, Nat.le_trans h.size hb.size, fun k hk hg => (hb.block k (by omega)).trans (h.block k hk hg)⟩
theorem Left.low {B g lo : Nat} {w w1 w2 : World} (h : Left B g w w1) (hb : Below lo w1 w2) (hl : w.heap.size ≤ lo) (hg : g < lo) : Left B g w w2 := ⟨h.1.low hb hg, h.2.low hb hl⟩
/-- What is owned above the cursor stays. -/
theorem Own.turn {k : IntKind} {E : TypeId} {lo hi : Nat} {w w' : World} {A : Option Addr} {n c g : Nat} {zs : List Int} (h : Own k E lo hi w A n c zs) (ht : Turn g w w') (hg : g < lo) : Own k E lo hi w' A n c zs := h.step ht.step (Or.inr hg)
/-- Bytes that were drawn. -/
def Drawn (m : Nat) (B g : Nat) (w : World) (e : Ending) (w' : World) : Prop :=
  ∃ A n c zs, e = .returned (.slice A n c) ∧ Own .u8 5 w.heap.size w'.heap.size w' A n c zs ∧ Byt zs ∧ n = m ∧ Left B g w w'
theorem Drawn.ret {m B g : Nat} {w w' : World} {A : Option Addr} {n c : Nat} {zs : List Int} (h : Own .u8 5 w.heap.size w'.heap.size w' A n c zs) (hb : Byt zs) (hn : n = m) (hL : Left B g w w') : Drawn m B g w (.returned (.slice A n c)) w' := ⟨A, n, c, zs, rfl, h, hb, hn, hL⟩
theorem Byt.snoc {zs : List Int} {z : Int} (h : Byt zs) (h0 : 0 ≤ z) (h1 : z ≤ 255) : Byt (zs ++ [z]) := h.append (fun y hy => by
  have : y = z := by simpa using hy
  omega)
/-- Midway. -/
def Drawing (B g : Nat) (w : World) (i : Nat) (A : Option Addr) (n c : Nat) (wr : World) : Prop :=
  ∃ zs, Own .u8 5 w.heap.size wr.heap.size wr A n c zs ∧ Byt zs ∧ n = i ∧ Left B g w wr
theorem Drawing.next {B g : Nat} {w wr w1 w2 : World} {i n n' c' : Nat} {A' : Option Addr} {x : Int} {o : Obj} {hi : Nat} {zs : List Int} (hg : g < w.heap.size) (hby : Byt zs) (hn : n = i) (hL : Left B g w wr) (hL1 : Left B g wr w1)
    (hO2 : Own .u8 5 w.heap.size w2.heap.size w2 A' n' c' (zs ++ [x])) (hS : Step w.heap.size hi (w1.alloc o) w2) (hx0 : 0 ≤ x) (hx1 : x ≤ 255) (hn' : n' = n + 1) : Drawing B g w (i + 1) A' n' c' w2 := by
  have hs : w.heap.size ≤ w1.heap.size := Nat.le_trans hL.2.size hL1.2.size
  exact ⟨_, hO2, hby.snoc hx0 hx1, by omega, (hL.trans hL1).low (((Below.refl _ _).alloc hs o).trans (hS.low (by simp; omega))) (Nat.le_refl _) hg⟩
set_option maxRecDepth 100000 in
set_option maxHeartbeats 1000000 in
theorem l1Bytes (B g m : Nat) (w : World) (hc : Cur w B g) (hm : m ≤ 1048576) : Calls Try.prog 46 #[.pointer (some ⟨g, 0, none⟩), .int .i64 m] w (Drawn m B g w) := by
  obtain ⟨i0, hi, hz0, hz1, hz2⟩ := info_parts infoB
  have hg := hc.lt
  have hst : Drawing B g w 0 (some ⟨w.heap.size, 0, none⟩) 0 0 (w.alloc (.cells #[] 5)) :=
    ⟨[], (Own.none_ .u8 5 w).more (by simp) (Nat.le_refl _), Byt.nil, rfl, hc.alloc' _, (Turn.refl _ _).alloc _⟩
  have HST := Lib.hid hst
  clear hst hc
  go_enter Try.func46, Try.ntmps46
  go_wp2_with fail
  go_loopw [5, 6] (fun sv iv wr => ∃ (A : Option Addr) (n c i : Nat), sv = .slice A n c ∧ iv = .int .i64 i ∧ i ≤ m ∧ Drawing B g w i A n c wr) (fun _ iv _ => m - (intOf iv).toNat)
  case atStart => exact ⟨_, _, _, 0, rfl, rfl, Nat.zero_le _, HST.out⟩
  case round =>
    obtain ⟨A, n, c, i, rfl, rfl, him, hD⟩ := hrel
    obtain ⟨zs, hO, hby, hni, hL⟩ := hD
    have HO := Lib.hid hO
    have HBY := Lib.hid hby
    have HNI := Lib.hid hni
    have HL := Lib.hid hL
    have hn1 : n ≤ m := by omega
    have hs := hL.2.size
    clear hO hby hni hL
    by_cases hlt : i < m
    · go_wp2_with fail
      refine (l1Byte B g _ HL.out.1).mono ?_
      rintro e w1 ⟨x, hx0, hx1, rfl, hL1⟩
      have HL1 := Lib.hid hL1
      have HO1 := Lib.hid (HO.out.turn hL1.2 hg)
      have hs1 := hL1.2.size
      clear hL1
      go_wp2_with (at_builtin; refine wpList_append_rz _ rfl _ _ 22 rfl .u8 5 i0 0 1 Try.underlying22 hi hz0 hz1 hz2 w.heap.size wr.heap.size A n c _ rfl (HO1.out.alloc _) _ 1 1 [_] rfl (Rz.one _ _ _ _) (by unfold maxLen; omega) (by omega) (by simp; omega) ?_; intro A2 c2 w2 hO2 hS2; have HO2 := Lib.hid hO2; have HS2 := Lib.hid hS2; clear hO2 hS2)
      have hN := Drawing.next hg HBY.out HNI.out HL.out HL1.out HO2.out HS2.out hx0 hx1 rfl
      clear HO2 HS2
      go_roundw
      case rel => exact ⟨A2, n + 1, c2, i + 1, rfl, by go_num, by omega, hN⟩
      case measure => simp [intOf]; omega
    · obtain rfl : i = m := by omega
      go_wp2_with fail
      go_ret
      exact Drawn.ret HO.out HBY.out HNI.out HL.out
/-- A slice of bytes and a number were drawn. -/
def DrewBI (w : World) (e : Ending) (w' : World) : Prop :=
  ∃ A n c zs, ∃ x : Int, e = .returned (.tuple #[.slice A n c, .int .i64 x]) ∧ Own .u8 5 w.heap.size w'.heap.size w' A n c zs ∧ Byt zs ∧ n ≤ 1048576 ∧ -9223372036854775808 ≤ x ∧ x ≤ 9223372036854775807 ∧ Below w.heap.size w w'
theorem DrewBI.ret {w w' : World} {A : Option Addr} {n c lo hi : Nat} {zs : List Int} {x : Int} (h : Own .u8 5 lo hi w' A n c zs) (hl : w.heap.size ≤ lo) (hb : Byt zs) (hn : n ≤ 1048576) (h0 : -9223372036854775808 ≤ x) (h1 : x ≤ 9223372036854775807) (hB : Below w.heap.size w w') :
    DrewBI w (.returned (.tuple #[.slice A n c, .int .i64 x])) w' := by
  have hs := h.2.2.1
  exact ⟨A, n, c, zs, x, rfl, (h.more hs (Nat.le_refl _)).less hl, hb, hn, h0, h1, hB⟩
/-- Two slices of bytes were drawn. -/
def DrewBB (w : World) (e : Ending) (w' : World) : Prop :=
  ∃ A n c zs A' n' c' zs', e = .returned (.tuple #[.slice A n c, .slice A' n' c']) ∧ Rz .u8 w' A n zs ∧ Byt zs ∧ n ≤ 1048576 ∧ Rz .u8 w' A' n' zs' ∧ Byt zs' ∧ n' ≤ 1048576 ∧ Below w.heap.size w w'
theorem DrewBB.ret {w w' : World} {A A' : Option Addr} {n c n' c' : Nat} {zs zs' : List Int} (h : Rz .u8 w' A n zs) (hb : Byt zs) (hn : n ≤ 1048576) (h' : Rz .u8 w' A' n' zs') (hb' : Byt zs') (hn' : n' ≤ 1048576) (hB : Below w.heap.size w w') :
    DrewBB w (.returned (.tuple #[.slice A n c, .slice A' n' c'])) w' := ⟨A, n, c, zs, A', n', c', zs', rfl, h, hb, hn, h', hb', hn', hB⟩
theorem Left.below {B g : Nat} {w w' : World} (h : Left B g w w') (hB : B ≤ g) (hs : B ≤ w.heap.size) : Below B w w' := h.2.below hB hs
theorem Cur.ge {w : World} {B g : Nat} (h : Cur w B g) : B ≤ g := by
  obtain ⟨A, n, c, zs, i, hh, hgg, hl, hn, hz, hR, hi, hB⟩ := h
  exact hB
theorem wide_in {x : Int} (h0 : -wide ≤ x) (h1 : x ≤ wide - 1) : -9223372036854775808 ≤ x ∧ x ≤ 9223372036854775807 := by unfold wide at h0 h1; omega
/-- Midway in a draw that lays bytes: the cursor was made by this call. -/
def Midway (w : World) (g lo m : Nat) (A : Option Addr) (n c : Nat) (wr : World) : Prop :=
  ∃ zs, Own .u8 5 lo wr.heap.size wr A n c zs ∧ Byt zs ∧ n ≤ m ∧ Cur wr w.heap.size g ∧ Below w.heap.size w wr ∧ lo ≤ wr.heap.size
theorem Midway.next {w wr w1 w2 : World} {g lo m n n' c' : Nat} {A' : Option Addr} {x : Int} {o : Obj} {hi : Nat} {zs : List Int} (hg : g < lo) (hgB : w.heap.size ≤ g) (hby : Byt zs) (hn : n ≤ m) (hB : Below w.heap.size w wr) (hL1 : Left w.heap.size g wr w1) (hl : lo ≤ wr.heap.size)
    (hO2 : Own .u8 5 lo w2.heap.size w2 A' n' c' (zs ++ [x])) (hS : Step lo hi (w1.alloc o) w2) (hx0 : 0 ≤ x) (hx1 : x ≤ 255) (hn' : n' = n + 1) : Midway w g lo (m + 1) A' n' c' w2 := by
  have hs : lo ≤ w1.heap.size := Nat.le_trans hl hL1.2.size
  have hb2 : Below lo w1 w2 := ((Below.refl _ _).alloc hs o).trans (hS.low (by simp; omega))
  exact ⟨_, hO2, hby.snoc hx0 hx1, by omega, hL1.1.low hb2 hg, (hB.trans (hL1.below hgB hB.size)).trans (hb2.mono (by omega)), Nat.le_trans hs hb2.size⟩
end Go.Proofs.Ytkbenfnmigkclaa
