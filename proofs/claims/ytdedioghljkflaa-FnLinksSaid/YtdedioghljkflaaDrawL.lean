/- Draws of chapter 10. -/
import Derived.Test.YtdedioghljkflaaLkOk
import Derived.Test.YtdedioghljkflaaLnkXS
import Derived.Test.YtdedioghljkflaaLnkRS
import Derived.Test.YtdedioghljkflaaLNew
import Derived.Deep.RegionLaw
import Derived.IntWalk
import Derived.Deep.Cut
import Derived.Deep.CutRange
import Derived.LoopTactic
import Derived.Lib.Hide
import Derived.Deep.QuietTactic
import Derived.BigQuiet
import Derived.Deep.RegionWith
import Derived.Handy
namespace Go.Proofs.Ytdedioghljkflaa
open Go.RowKit
set_option linter.unusedVariables false
set_option linter.unusedSimpArgs false
/-- Midway: the result's box, the link's box k, its lists behind it. -/
def LkSt (W : World) (B g k K : Nat) (p f3 f5 : Int) (L2 : List Dat) (A2 : Option Addr) (n2 c2 : Nat) (L4 : List Dat) (A4 : Option Addr) (n4 c4 : Nat) (L6 : List Dat) (A6 : Option Addr) (n6 c6 : Nat) (w : World) : Prop :=
  Left B g W w ∧ Zx W.heap.size [.int .i64 0, .bool false, .slice none 0 0, .int .i64 0, .slice none 0 0, .int .i64 0, .slice none 0 0] w ∧ Zx k [.int .i64 p, .bool true, .slice A2 n2 c2, .int .i64 f3, .slice A4 n4 c4, .int .i64 f5, .slice A6 n6 c6] w ∧ Link3 (k + 1) w L2 A2 n2 c2 L4 A4 n4 c4 L6 A6 n6 c6 ∧ LnkOk K L2 f3 L4 f5 L6 ∧ (g < W.heap.size ∧ W.heap.size < k)
/-- A link was drawn. -/
def AnyLk (B g : Nat) (w : World) (e : Ending) (w' : World) : Prop :=
  ∃ (p f3 f5 : Int) (L2 : List Dat) (A2 : Option Addr) (n2 c2 : Nat) (L4 : List Dat) (A4 : Option Addr) (n4 c4 : Nat) (L6 : List Dat) (A6 : Option Addr) (n6 c6 : Nat), e = .returned (.agg #[.int .i64 p, .bool true, .slice A2 n2 c2, .int .i64 f3, .slice A4 n4 c4, .int .i64 f5, .slice A6 n6 c6]) ∧ Own3 (w.heap.size + 1) w'.heap.size w' L2 A2 n2 c2 L4 A4 n4 c4 L6 A6 n6 c6 ∧ LnkOk 40 L2 f3 L4 f5 L6 ∧ Left B g w w'
theorem Turn.touch9 {g : Nat} {w w' : World} (h : Turn g w w') : Touch (fun b => b = g) w w' := ⟨h.os, h.tape, h.output, h.size, h.block⟩
section
variable {W w w' : World} {B g k K : Nat} {p f3 f5 : Int} {L2 : List Dat} {A2 : Option Addr} {n2 c2 : Nat} {L4 : List Dat} {A4 : Option Addr} {n4 c4 : Nat} {L6 : List Dat} {A6 : Option Addr} {n6 c6 : Nat}
theorem LkSt.turn (h : LkSt W B g k K p f3 f5 L2 A2 n2 c2 L4 A4 n4 c4 L6 A6 n6 c6 w) (hL : Left B g w w') : LkSt W B g k K p f3 f5 L2 A2 n2 c2 L4 A4 n4 c4 L6 A6 n6 c6 w' :=
  ⟨h.1.trans hL, h.2.1.touch hL.2.touch9 (by have := h.2.2.2.2.2; omega), h.2.2.1.touch hL.2.touch9 (by have := h.2.2.2.2.2; omega), h.2.2.2.1.touch hL.2.touch9 (fun b h1 _ e => by have := h.2.2.2.2.2; omega), h.2.2.2.2⟩
theorem LkSt.low (h : LkSt W B g k K p f3 f5 L2 A2 n2 c2 L4 A4 n4 c4 L6 A6 n6 c6 w) (hb : Below w.heap.size w w') : LkSt W B g k K p f3 f5 L2 A2 n2 c2 L4 A4 n4 c4 L6 A6 n6 c6 w' :=
  ⟨h.1.low hb h.1.2.size (by have := h.1.2.size; have := h.2.2.2.2.2; omega), h.2.1.below hb, h.2.2.1.below hb, h.2.2.2.1.below hb, h.2.2.2.2⟩
theorem LkSt.zres (h : LkSt W B g k K p f3 f5 L2 A2 n2 c2 L4 A4 n4 c4 L6 A6 n6 c6 w) : Zx W.heap.size [.int .i64 0, .bool false, .slice none 0 0, .int .i64 0, .slice none 0 0, .int .i64 0, .slice none 0 0] w := h.2.1
theorem LkSt.cur (h : LkSt W B g k K p f3 f5 L2 A2 n2 c2 L4 A4 n4 c4 L6 A6 n6 c6 w) : Cur w B g := h.1.1
theorem LkSt.ok (h : LkSt W B g k K p f3 f5 L2 A2 n2 c2 L4 A4 n4 c4 L6 A6 n6 c6 w) : LnkOk K L2 f3 L4 f5 L6 := h.2.2.2.2.1
theorem LkSt.own (h : LkSt W B g k K p f3 f5 L2 A2 n2 c2 L4 A4 n4 c4 L6 A6 n6 c6 w) : Own3 (k + 1) w.heap.size w L2 A2 n2 c2 L4 A4 n4 c4 L6 A6 n6 c6 := h.2.2.2.1.own
theorem LkSt.ns (h : LkSt W B g k K p f3 f5 L2 A2 n2 c2 L4 A4 n4 c4 L6 A6 n6 c6 w) : n2 ≤ K ∧ n4 ≤ K ∧ n6 ≤ K := by
  have h2 := h.own.l2.count; have h4 := h.own.l4.count; have h6 := h.own.l6.count
  have a := h.ok.l2; have b := h.ok.l4; have c := h.ok.l6
  omega
theorem LkSt.cells (h : LkSt W B g k K p f3 f5 L2 A2 n2 c2 L4 A4 n4 c4 L6 A6 n6 c6 w) : w.cell? ⟨k, 0, none⟩ = some (.int .i64 p) ∧ w.cell? ⟨k, 1, none⟩ = some (.bool true) ∧ w.cell? ⟨k, 2, none⟩ = some (.slice A2 n2 c2) ∧ w.cell? ⟨k, 3, none⟩ = some (.int .i64 f3) ∧ w.cell? ⟨k, 4, none⟩ = some (.slice A4 n4 c4) ∧ w.cell? ⟨k, 5, none⟩ = some (.int .i64 f5) ∧ w.cell? ⟨k, 6, none⟩ = some (.slice A6 n6 c6) ∧ ∀ j, w.frozen? ⟨k, j, none⟩ = false := h.2.2.1.c7
theorem LkSt.res (h : LkSt W B g k K p f3 f5 L2 A2 n2 c2 L4 A4 n4 c4 L6 A6 n6 c6 w) : w.cell? ⟨W.heap.size, 0, none⟩ = some (.int .i64 0) ∧ w.cell? ⟨W.heap.size, 1, none⟩ = some (.bool false) ∧ w.cell? ⟨W.heap.size, 2, none⟩ = some (.slice none 0 0) ∧ w.cell? ⟨W.heap.size, 3, none⟩ = some (.int .i64 0) ∧ w.cell? ⟨W.heap.size, 4, none⟩ = some (.slice none 0 0) ∧ w.cell? ⟨W.heap.size, 5, none⟩ = some (.int .i64 0) ∧ w.cell? ⟨W.heap.size, 6, none⟩ = some (.slice none 0 0) ∧ ∀ j, w.frozen? ⟨W.heap.size, j, none⟩ = false := h.2.1.c7
theorem LkSt.put {K' : Nat} {g3 g5 : Int} {M2 : List Dat} {D2 : Option Addr} {m2 e2 : Nat} {M4 : List Dat} {D4 : Option Addr} {m4 e4 : Nat} {M6 : List Dat} {D6 : Option Addr} {m6 e6 : Nat} (h : LkSt W B g k K p f3 f5 L2 A2 n2 c2 L4 A4 n4 c4 L6 A6 n6 c6 w) (hb : Below w.heap.size w w') (h3 : Link3 w.heap.size w' M2 D2 m2 e2 M4 D4 m4 e4 M6 D6 m6 e6) (ok : LnkOk K' M2 g3 M4 g5 M6) : LkSt W B g k K' p g3 g5 M2 D2 m2 e2 M4 D4 m4 e4 M6 D6 m6 e6 (((((((w'.setCell ⟨k, 0, none⟩ (.int .i64 p)).setCell ⟨k, 1, none⟩ (.bool true)).setCell ⟨k, 2, none⟩ (.slice D2 m2 e2)).setCell ⟨k, 3, none⟩ (.int .i64 g3)).setCell ⟨k, 4, none⟩ (.slice D4 m4 e4)).setCell ⟨k, 5, none⟩ (.int .i64 g5)).setCell ⟨k, 6, none⟩ (.slice D6 m6 e6)) := by
  have hkw := h.2.2.1.1.1
  have hw : W.heap.size < k := h.2.2.2.2.2.2
  have hg : g < W.heap.size := h.2.2.2.2.2.1
  have hT : Touch (fun b => b = k) w' (((((((w'.setCell ⟨k, 0, none⟩ (.int .i64 p)).setCell ⟨k, 1, none⟩ (.bool true)).setCell ⟨k, 2, none⟩ (.slice D2 m2 e2)).setCell ⟨k, 3, none⟩ (.int .i64 g3)).setCell ⟨k, 4, none⟩ (.slice D4 m4 e4)).setCell ⟨k, 5, none⟩ (.int .i64 g5)).setCell ⟨k, 6, none⟩ (.slice D6 m6 e6)) := (Touch.refl _ w').put7 rfl
  have hB : Below k w' (((((((w'.setCell ⟨k, 0, none⟩ (.int .i64 p)).setCell ⟨k, 1, none⟩ (.bool true)).setCell ⟨k, 2, none⟩ (.slice D2 m2 e2)).setCell ⟨k, 3, none⟩ (.int .i64 g3)).setCell ⟨k, 4, none⟩ (.slice D4 m4 e4)).setCell ⟨k, 5, none⟩ (.int .i64 g5)).setCell ⟨k, 6, none⟩ (.slice D6 m6 e6)) := hT.below (fun b h => by rw [h]; exact Nat.le_refl _) (Nat.le_trans (Nat.le_of_lt hkw) hb.size)
  have h1 := h.low hb
  refine ⟨h1.1.low (hB.mono (Nat.le_of_lt hw)) (Nat.le_refl _) hg, h1.2.1.touch hT (by omega), h1.2.2.1.put7, ?_, ok, h.2.2.2.2.2⟩
  have h4 := h3.touch hT (fun b h1 _ e => by omega)
  have up : ∀ {E : TypeId} {kk : Nat} {A : Option Addr} {n c : Nat} {L : List Dat} {wz : World}, Grow E kk w.heap.size wz A n c L (fun _ => False) → Grow E kk (k + 1) wz A n c L (fun _ => False) := fun h => h.moreF (fun a e => by have h1 := (h.blkF a e).1; omega)
  exact ⟨up h4.g2, up h4.g4, up h4.g6, h4.p24, h4.p26, h4.p46⟩
theorem LkSt.done (h : LkSt W B g k K p f3 f5 L2 A2 n2 c2 L4 A4 n4 c4 L6 A6 n6 c6 w) (hK : K ≤ 40) (hT : Touch (fun b => b = W.heap.size) w w') (hg : g < W.heap.size) : AnyLk B g W (.returned (.agg #[.int .i64 p, .bool true, .slice A2 n2 c2, .int .i64 f3, .slice A4 n4 c4, .int .i64 f5, .slice A6 n6 c6])) w' := by
  have hw : W.heap.size < k := h.2.2.2.2.2.2
  have hB : Below W.heap.size w w' := hT.below (fun b h => by rw [h]; exact Nat.le_refl _) (Nat.le_trans (Nat.le_of_lt hw) (Nat.le_of_lt h.2.2.1.1.1))
  have o := h.ok
  refine ⟨p, f3, f5, L2, A2, n2, c2, L4, A4, n4, c4, L6, A6, n6, c6, rfl, (h.own.touch hT (fun b h1 e => by have := h1.1; omega)).mono (fun b h1 => ⟨by have := h1.1; omega, by have := h1.2; have := hT.size; omega⟩), ⟨o.pos, fun d hd => by have := o.cnt d hd; omega, o.apart, by have := o.nx; omega, o.ids, by have := o.asked; omega, o.h2, o.h4, o.h6, by have := o.l2; omega, by have := o.l4; omega, by have := o.l6; omega⟩, h.1.low hB (Nat.le_refl _) hg⟩
theorem LkSt.stayA {o : Obj} (h : LkSt W B g k K p f3 f5 L2 A2 n2 c2 L4 A4 n4 c4 L6 A6 n6 c6 w) (hT : Touch (fun b => ∃ a, A6 = some a ∧ b = a.block) (w.alloc o) w') : w'.cell? ⟨k, 6, none⟩ = some (.slice A6 n6 c6) ∧ w'.frozen? ⟨k, 6, none⟩ = false := by
  have hz := (h.2.2.1.below ((Below.refl _ _).alloc (Nat.le_refl _) o)).touch hT (fun ⟨a, e, hx⟩ => by have h1 := (h.2.2.2.1.g6.blkF a e).1; omega)
  exact ⟨hz.1.2 6 _ rfl, hz.2 6⟩
theorem LkSt.putA {K' : Nat} {d : Dat} {o : Obj} {C6 : Option Addr} {j6 : Nat} (h : LkSt W B g k K p f3 f5 L2 A2 n2 c2 L4 A4 n4 c4 L6 A6 n6 c6 w) (hG : Grow 60 2 (k + 1) w' C6 (n6 + 1) j6 (L6 ++ [d]) (fun _ => False ∨ False)) (hT : Touch (fun b => ∃ a, A6 = some a ∧ b = a.block) (w.alloc o) w') (hA : ∀ a, C6 = some a → A6 = some a ∨ (w.alloc o).heap.size ≤ a.block) (ok : LnkOk K' L2 f3 L4 f5 (L6 ++ [d])) :
    LkSt W B g k K' p f3 f5 L2 A2 n2 c2 L4 A4 n4 c4 (L6 ++ [d]) C6 (n6 + 1) j6 (w'.setCell ⟨k, 6, none⟩ (.slice C6 (n6 + 1) j6)) := by
  have hw : W.heap.size < k := h.2.2.2.2.2.2
  have hg : g < W.heap.size := h.2.2.2.2.2.1
  have hlo : ∀ a, A6 = some a → k + 1 ≤ a.block := fun a e => (h.2.2.2.1.g6.blkF a e).1
  have ht : Touch (fun b => ∃ a, A6 = some a ∧ b = a.block) w w' := (Touch.of_below ((Below.refl _ _).alloc (Nat.le_refl _) o)).trans hT
  have hB : Below k w w' := ht.below (fun b ⟨a, e, hx⟩ => by have := hlo a e; omega) (Nat.le_of_lt h.2.2.1.1.1)
  have hT2 : Touch (fun b => b = k) w' (w'.setCell ⟨k, 6, none⟩ (.slice C6 (n6 + 1) j6)) := (Touch.refl (fun b => b = k) w').setCell (p := ⟨k, 6, none⟩) rfl _
  have hB2 : Below k w' (w'.setCell ⟨k, 6, none⟩ (.slice C6 (n6 + 1) j6)) := hT2.below (fun b h => by rw [h]; exact Nat.le_refl _) (Nat.le_trans (Nat.le_of_lt h.2.2.1.1.1) hB.size)
  have z0 := h.2.1.touch ht (fun ⟨a, e, hx⟩ => by have := hlo a e; omega)
  have zk := h.2.2.1.touch ht (fun ⟨a, e, hx⟩ => by have := hlo a e; omega)
  have g2 := h.2.2.2.1.g2.apart_touch h.2.2.2.1.p26 ht
  have g4 := h.2.2.2.1.g4.apart_touch h.2.2.2.1.p46 ht
  have hA' : ∀ a, C6 = some a → A6 = some a ∨ w.heap.size ≤ a.block := fun a e => (hA a e).imp id (fun h => by rw [World.size_alloc] at h; omega)
  have st : ∀ {E : TypeId} {kk : Nat} {A : Option Addr} {n c : Nat} {L : List Dat}, Grow E kk (k + 1) w' A n c L (fun _ => False) → Grow E kk (k + 1) (w'.setCell ⟨k, 6, none⟩ (.slice C6 (n6 + 1) j6)) A n c L (fun _ => False) := fun h => h.touch hT2 (fun a e x => by have := (h.blkF a e).1; omega) (fun _ h => h.elim)
  exact ⟨(h.1.low (hB.mono (Nat.le_of_lt hw)) (Nat.le_refl _) hg).low (hB2.mono (Nat.le_of_lt hw)) (Nat.le_refl _) hg, z0.touch hT2 (by omega), zk.put 6 _, ⟨st g2, st g4, st (hG.noF (fun b h => h.elim (fun h => h) (fun h => h))), h.2.2.2.1.p24, h.2.2.2.1.p26.grown hA' (fun a e => (h.2.2.2.1.g2.blkF a e).2), h.2.2.2.1.p46.grown hA' (fun a e => (h.2.2.2.1.g4.blkF a e).2)⟩, ok, h.2.2.2.2.2⟩
end
def LkAny (W : World) (B g k K : Nat) (p : Int) (w : World) : Prop := ∃ (f3 f5 : Int) (L2 : List Dat) (A2 : Option Addr) (n2 c2 : Nat) (L4 : List Dat) (A4 : Option Addr) (n4 c4 : Nat) (L6 : List Dat) (A6 : Option Addr) (n6 c6 : Nat), LkSt W B g k K p f3 f5 L2 A2 n2 c2 L4 A4 n4 c4 L6 A6 n6 c6 w
set_option maxRecDepth 100000 in
set_option maxHeartbeats 16000000 in
theorem l10Link (B g : Nat) (w : World) (hc : Cur w B g) : Calls Try.prog 61 #[.pointer (some ⟨g, 0, none⟩)] w (AnyLk B g w) := by
  obtain ⟨i1, hi, hz0, hz1, hz2⟩ := info_parts infoQuestion
  have hg := hc.lt
  have z0 := Lib.hid (Zx.new w #[.int .i64 0, .bool false, .slice none 0 0, .int .i64 0, .slice none 0 0, .int .i64 0, .slice none 0 0] 27)
  have HL0 : Hid (Left B g w (w.alloc (.cells #[.int .i64 0, .bool false, .slice none 0 0, .int .i64 0, .slice none 0 0, .int .i64 0, .slice none 0 0] 27))) := Lib.hid ⟨hc.alloc' _, (Turn.refl g w).alloc _⟩
  clear hc
  go_enter Try.func61, Try.ntmps61
  go_wp2_with fail
  refine (l1Below B g 3 _ (by omega) (by omega) HL0.out.1).mono ?_
  rintro e w1 ⟨t, ht0, ht1, rfl, hL⟩
  have HL1 := Lib.hid (HL0.out.trans hL)
  replace z0 := Lib.hid (z0.out.touch hL.2.touch9 (by omega))
  clear hL HL0
  go_wp2_with fail
  refine (specNewLink _ _).mono ?_
  rintro e w2 ⟨rfl, hb⟩
  have HL2 := Lib.hid (HL1.out.low hb HL1.out.2.size (by have := HL1.out.2.size; omega))
  replace z0 := Lib.hid (z0.out.below hb)
  clear hb HL1
  obtain ⟨p, hp⟩ : ∃ p : Int, 1 + t = p := ⟨_, rfl⟩
  try rw [hp]
  have hk2 : w.heap.size < w2.heap.size := z0.out.1.1
  have X : Hid (LkSt w B g w2.heap.size 0 p 0 0 [] none 0 0 [] none 0 0 [] none 0 0 (w2.alloc (.cells #[.int .i64 p, .bool true, .slice none 0 0, .int .i64 0, .slice none 0 0, .int .i64 0, .slice none 0 0] 27))) := Lib.hid
    ⟨⟨HL2.out.1.alloc' _, HL2.out.2.alloc _⟩, z0.out.below ((Below.refl _ _).alloc (Nat.le_refl _) _), Zx.new w2 #[.int .i64 p, .bool true, .slice none 0 0, .int .i64 0, .slice none 0 0, .int .i64 0, .slice none 0 0] 27, ⟨Grow.nil _ _ _ _, Grow.nil _ _ _ _, Grow.nil _ _ _ _, Apart.nl _, Apart.nl _, Apart.nl _⟩, LnkOk.start, hg, hk2⟩
  clear z0 HL2 hp
  go_wp2_with fail
  refine (l1Below B g 5 _ (by omega) (by omega) X.out.cur).mono ?_
  rintro e w3 ⟨x, hx0, hx1, rfl, hL⟩
  obtain ⟨y, rfl⟩ : ∃ y : Nat, x = y := ⟨x.toNat, by omega⟩
  replace X := Lib.hid (X.out.turn hL)
  clear hL
  go_wp2_with fail
  go_loopw [4] (fun iv wr => ∃ (i K : Nat), iv = .int .i64 i ∧ i + K ≤ 20 ∧ LkAny w B g w2.heap.size K p wr) (fun iv _ => (intOf iv).toNat)
  case atStart => exact ⟨y, 0, rfl, by omega, _, _, _, _, _, _, _, _, _, _, _, _, _, _, X.out⟩
  case round =>
    obtain ⟨i, K, rfl, hni, f3, f5, L2, A2, n2, c2, L4, A4, n4, c4, L6, A6, n6, c6, hX⟩ := hrel
    clear X
    have X := Lib.hid hX
    clear hX
    have hns := X.out.ns
    obtain ⟨z0, z1, z2, z3, z4, z5, z6, fz⟩ := X.out.cells
    by_cases hlt : 0 < i
    · obtain ⟨j, rfl⟩ : ∃ j, i = j + 1 := ⟨i - 1, by omega⟩
      have XD := Lib.hid (X.out.low (Below.refl _ _).drew)
      go_wp2_with fail
      go_region_law (first
        | (go_simp; go_at_call 62; (with_reducible refine (l1Below B g 4 _ (by omega) (by omega) XD.out.cur).mono ?_); rintro e w7 ⟨u, hu0, hu1, rfl, hL⟩; (have X5 := Lib.hid (XD.out.turn hL)); clear hL; (obtain ⟨a0, a1, a2, a3, a4, a5, a6, fa⟩ := X5.out.cells))
        | (go_simp; go_at_call 32; (with_reducible refine (specPutE p true L2 A2 n2 c2 f3 L4 A4 n4 c4 f5 L6 A6 n6 c6 u _ X5.out.own.l2 X5.out.ok.h2 X5.out.own.l4 X5.out.ok.h4 X5.out.own.l6 X5.out.ok.h6 (by omega) (by omega) (by omega)).mono ?_); rintro e w8 ⟨C2, j2, C4, j4, C6, j6, rfl, hK9, hb9⟩; (have XN := Lib.hid (X5.out.put hb9 hK9 (X5.out.ok.put (by omega) (by omega)))); (obtain ⟨b0, b1, b2, b3, b4, b5, b6, fb⟩ := (X5.out.low hb9).cells); clear hK9 hb9))
      all_goals (
        clear XD X5
        go_wp2_with fail
        go_roundw
        case rel => exact ⟨j, K + 1, by go_num, by omega, _, _, _, _, _, _, _, _, _, _, _, _, _, _, XN.out⟩
        case measure => (simp [intOf]))
    · obtain rfl : i = 0 := by omega
      clear hns
      go_wp2_with fail
      refine (l1Below B g 4 _ (by omega) (by omega) X.out.cur).mono ?_
      rintro e w4 ⟨x, hx0, hx1, rfl, hL⟩
      obtain ⟨y, rfl⟩ : ∃ y : Nat, x = y := ⟨x.toNat, by omega⟩
      replace X := Lib.hid (X.out.turn hL)
      clear hL z0 z1 z2 z3 z4 z5 z6 fz
      go_wp2_with fail
      go_loopw [5] (fun iv wr => ∃ (i K : Nat), iv = .int .i64 i ∧ i + K ≤ 30 ∧ LkAny w B g w2.heap.size K p wr) (fun iv _ => (intOf iv).toNat)
      case atStart => exact ⟨y, K, rfl, by omega, _, _, _, _, _, _, _, _, _, _, _, _, _, _, X.out⟩
      case round =>
        obtain ⟨i, K, rfl, hni, f3, f5, L2, A2, n2, c2, L4, A4, n4, c4, L6, A6, n6, c6, hX⟩ := hrel
        clear X
        have X := Lib.hid hX
        clear hX
        have hns := X.out.ns
        obtain ⟨z0, z1, z2, z3, z4, z5, z6, fz⟩ := X.out.cells
        by_cases hlt : 0 < i
        · obtain ⟨j, rfl⟩ : ∃ j, i = j + 1 := ⟨i - 1, by omega⟩
          have XD := Lib.hid (X.out.low (Below.refl _ _).drew)
          go_wp2_with fail
          go_region_law (first
            | (go_simp; go_at_call 62; (with_reducible refine (l1Below B g 4 _ (by omega) (by omega) XD.out.cur).mono ?_); rintro e w7 ⟨u, hu0, hu1, rfl, hL⟩; (have X5 := Lib.hid (XD.out.turn hL)); clear hL; (obtain ⟨a0, a1, a2, a3, a4, a5, a6, fa⟩ := X5.out.cells))
            | (go_simp; go_at_call 34; (with_reducible refine (specPutQ p true L2 A2 n2 c2 f3 L4 A4 n4 c4 f5 L6 A6 n6 c6 u _ X5.out.own.l2 X5.out.ok.h2 X5.out.own.l4 X5.out.ok.h4 X5.out.own.l6 X5.out.ok.h6 (by omega) (by omega) (by omega)).mono ?_); rintro e w8 ⟨C2, j2, C4, j4, C6, j6, rfl, hK9, hb9⟩; (have XN := Lib.hid (X5.out.put hb9 hK9 (X5.out.ok.ask (by omega) (by omega)))); (obtain ⟨b0, b1, b2, b3, b4, b5, b6, fb⟩ := (X5.out.low hb9).cells); clear hK9 hb9))
          all_goals (
            clear XD X5
            go_wp2_with fail
            go_roundw
            case rel => exact ⟨j, K + 1, by go_num, by omega, _, _, _, _, _, _, _, _, _, _, _, _, _, _, XN.out⟩
            case measure => (simp [intOf]))
        · obtain rfl : i = 0 := by omega
          clear hns
          go_wp2_with fail
          refine (l1Below B g 3 _ (by omega) (by omega) X.out.cur).mono ?_
          rintro e w5 ⟨x, hx0, hx1, rfl, hL⟩
          obtain ⟨y, rfl⟩ : ∃ y : Nat, x = y := ⟨x.toNat, by omega⟩
          replace X := Lib.hid (X.out.turn hL)
          clear hL z0 z1 z2 z3 z4 z5 z6 fz
          go_wp2_with fail
          go_loopw [6] (fun iv wr => ∃ (i K : Nat), iv = .int .i64 i ∧ i + K ≤ 40 ∧ LkAny w B g w2.heap.size K p wr) (fun iv _ => (intOf iv).toNat)
          case atStart => exact ⟨y, K, rfl, by omega, _, _, _, _, _, _, _, _, _, _, _, _, _, _, X.out⟩
          case round =>
            obtain ⟨i, K, rfl, hni, f3, f5, L2, A2, n2, c2, L4, A4, n4, c4, L6, A6, n6, c6, hX⟩ := hrel
            clear X
            have X := Lib.hid hX
            clear hX
            have hns := X.out.ns
            obtain ⟨z0, z1, z2, z3, z4, z5, z6, fz⟩ := X.out.cells
            by_cases hlt : 0 < i
            · obtain ⟨j, rfl⟩ : ∃ j, i = j + 1 := ⟨i - 1, by omega⟩
              have XD := Lib.hid (X.out.low (Below.refl _ _).drew)
              go_wp2_with fail
              go_region_law (first
                | (refine step_append_dat _ rfl _ _ 25 rfl 2 (by omega) 60 i1 _ 16 Try.underlying25 hi hz0 hz1 rfl hz2 (w2.heap.size + 1) A6 n6 c6 L6 (fun _ => False) rfl (X5.out.2.2.2.1.g6.below ((Below.refl _ _).alloc (Nat.le_refl _) _)) _ 1 1 [.r [.i ((j : Int) + 1), .i u]] (fun _ => False) rfl (Src.litK (X2.ic ⟨_, _, rfl⟩) rfl) (fun b h => h.elim) (fun a e h => h) (by unfold maxLen; omega) (by omega) (by simp; have := X5.out.2.2.1.1.1; omega) ?_; intro C6 j6 w8 hG hT hA; (have XN := Lib.hid (X5.out.putA hG hT hA (X5.out.ok.ans (by omega) (by omega)))); (obtain ⟨y6, fy6⟩ := X5.out.stayA hT); clear hG hT hA)
                | (go_simp; go_at_call 62; (with_reducible refine (l1Below B g 4 _ (by omega) (by omega) XD.out.cur).mono ?_); rintro e w7 ⟨u, hu0, hu1, rfl, hL⟩; (have X5 := Lib.hid (XD.out.turn hL)); clear hL; (obtain ⟨a0, a1, a2, a3, a4, a5, a6, fa⟩ := X5.out.cells); (have F6 := fun o => (X5.out.low ((Below.refl _ _).alloc (Nat.le_refl _) o)).cells.2.2.2.2.2.2.1)))
              all_goals (
                clear XD X5
                go_wp2_with fail
                go_roundw
                case rel => exact ⟨j, K + 1, by go_num, by omega, _, _, _, _, _, _, _, _, _, _, _, _, _, _, XN.out⟩
                case measure => (simp [intOf]))
            · obtain rfl : i = 0 := by omega
              clear hns
              clear z0 z1 z2 z3 z4 z5 z6 fz
              have XZ : Hid (LkSt w B g w2.heap.size K p f3 f5 L2 A2 n2 c2 L4 A4 n4 c4 L6 A6 n6 c6 wr) := Lib.hid X.out
              clear X
              go_wp2_with fail
              refine (l1Once B g 4 _ (by omega) (by omega) XZ.out.cur).mono ?_
              rintro e w6 ⟨bo, rfl, hL⟩
              replace XZ := Lib.hid (XZ.out.turn hL)
              clear hL
              have hns := XZ.out.ns
              cases bo with
              | false =>
                obtain ⟨q0, q1, q2, q3, q4, q5, q6, fq⟩ := XZ.out.res
                obtain ⟨z0, z1, z2, z3, z4, z5, z6, fz⟩ := XZ.out.cells
                go_wp2_with fail
                refine bodyPost_ret (v := .agg #[.int .i64 p, .bool true, .slice A2 n2 c2, .int .i64 f3, .slice A4 n4 c4, .int .i64 f5, .slice A6 n6 c6]) ?hres rfl ?hpost
                case hres =>
                  refine results_box rfl _ _ (w.heap.size) [.int .i64 p, .bool true, .slice A2 n2 c2, .int .i64 f3, .slice A4 n4 c4, .int .i64 f5, .slice A6 n6 c6] _ rfl ?_ Try.underlying27 rfl (by kernel_rfl)
                  refine Zx.box ?_
                  repeat (first | with_reducible exact XZ.out.zres | with_reducible refine Zx.drewB ?_ | with_reducible apply Zx.put7)
                case hpost =>
                  refine XZ.out.done (by omega) (by repeat (first | with_reducible exact Touch.refl _ _ | with_reducible refine Touch.drew ?_ | with_reducible refine Touch.put7 ?_ (Eq.refl _))) (by omega)
              | true =>
                obtain ⟨z0, z1, z2, z3, z4, z5, z6, fz⟩ := XZ.out.cells
                have XD := Lib.hid (XZ.out.low (Below.refl _ _).drew)
                go_upto_region 15 with (fail)
                go_cut [] from 7 to 62 (fun wx => ∃ (f3 f5 : Int) (L2 : List Dat) (A2 : Option Addr) (n2 c2 : Nat) (L4 : List Dat) (A4 : Option Addr) (n4 c4 : Nat) (L6 : List Dat) (A6 : Option Addr) (n6 c6 : Nat), LkSt w B g w2.heap.size K p f3 f5 L2 A2 n2 c2 L4 A4 n4 c4 L6 A6 n6 c6 wx)
                case rest =>
                  clear XD XZ hns z0 z1 z2 z3 z4 z5 z6 fz
                  clear f3 f5 L2 A2 n2 c2 L4 A4 n4 c4 L6 A6 n6 c6
                  rename World => wx
                  obtain ⟨f3, f5, L2, A2, n2, c2, L4, A4, n4, c4, L6, A6, n6, c6, hXQ⟩ := hcut
                  have XQ := Lib.hid hXQ
                  clear hXQ
                  obtain ⟨q0, q1, q2, q3, q4, q5, q6, fq⟩ := XQ.out.res
                  obtain ⟨z0, z1, z2, z3, z4, z5, z6, fz⟩ := XQ.out.cells
                  go_wp2_with fail
                  refine bodyPost_ret (v := .agg #[.int .i64 p, .bool true, .slice A2 n2 c2, .int .i64 f3, .slice A4 n4 c4, .int .i64 f5, .slice A6 n6 c6]) ?hres rfl ?hpost
                  case hres =>
                    refine results_box rfl _ _ (w.heap.size) [.int .i64 p, .bool true, .slice A2 n2 c2, .int .i64 f3, .slice A4 n4 c4, .int .i64 f5, .slice A6 n6 c6] _ rfl ?_ Try.underlying27 rfl (by kernel_rfl)
                    refine Zx.box ?_
                    repeat (first | with_reducible exact XQ.out.zres | with_reducible refine Zx.drewB ?_ | with_reducible apply Zx.put7)
                  case hpost =>
                    refine XQ.out.done (by omega) (by repeat (first | with_reducible exact Touch.refl _ _ | with_reducible refine Touch.drew ?_ | with_reducible refine Touch.put7 ?_ (Eq.refl _))) (by omega)
                case first =>
                 go_region_law (first
                  | (go_simp; go_at_call 62; (with_reducible refine (l1Below B g 3 _ (by omega) (by omega) XD.out.cur).mono ?_); rintro e w7 ⟨u, hu0, hu1, rfl, hL⟩; (have X5 := Lib.hid (XD.out.turn hL)); clear hL; (have hwu : IntKind.i64.wrap (1 + u) = 1 + u := IntWalk.i64_in _ (by omega)); (obtain ⟨a0, a1, a2, a3, a4, a5, a6, fa⟩ := X5.out.cells))
                  | (go_simp; go_at_call 62; (with_reducible refine (l1Below B g 3 _ (by omega) (by omega) X5.out.cur).mono ?_); rintro e w9 ⟨v, hv0, hv1, rfl, hL⟩; (have X6 := Lib.hid (X5.out.turn hL)); clear hL; (have hwv : IntKind.i64.wrap (1 + v) = 1 + v := IntWalk.i64_in _ (by omega)); (obtain ⟨y0, y1, y2, y3, y4, y5, y6, fy⟩ := X6.out.cells))
                  | (go_simp; go_at_call 33; (with_reducible refine (specRel p true L2 A2 n2 c2 f3 L4 A4 n4 c4 f5 L6 A6 n6 c6 (1 + u) (1 + v) _ X6.out.own.l2 X6.out.ok.h2 X6.out.own.l4 X6.out.ok.h4 X6.out.own.l6 X6.out.ok.h6 (by omega) (by omega) (by omega)).mono ?_); rintro e w8 ⟨C2, j2, C4, j4, C6, j6, rfl, hK9, hb9⟩; (have XN := Lib.hid (X6.out.put hb9 hK9 (X6.out.ok.rel (p := 1 + u) (n := 1 + v) (by omega) (by omega)))); (obtain ⟨b0, b1, b2, b3, b4, b5, b6, fb⟩ := (X6.out.low hb9).cells); clear hK9 hb9))
                 all_goals (
                  go_wp2_with fail
                  go_meet
                  exact ⟨_, _, _, _, _, _, _, _, _, _, _, _, _, _, XN.out⟩)end Go.Proofs.Ytdedioghljkflaa
