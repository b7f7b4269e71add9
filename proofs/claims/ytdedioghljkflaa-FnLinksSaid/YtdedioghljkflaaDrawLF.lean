/- Draws of chapter 10: DrawFindExport, DrawPutExport. -/
import Derived.Test.YtdedioghljkflaaDrawL
import Derived.Deep.RegionLaw
import Derived.LoopTactic
import Derived.Lib.Hide
import Derived.Deep.QuietTactic
import Derived.BigQuiet
import Derived.Deep.RegionWith
import Derived.Handy
namespace Go.Proofs.Ytdedioghljkflaa
open Go.RowKit
set_option linter.unusedVariables false
set_option linter.unusedSimpArgs false
theorem Code.lowF {w w' : World} {A : Option Addr} {n : Nat} (h : Code w A n) (hb : Below w.heap.size w w') : Code w' A n := by
  obtain ⟨zs, h1, h2, h3, h4⟩ := h
  exact ⟨zs, h1, h2, h3, (h4.below hb).more hb.size⟩
/-- A link and an entity were drawn. -/
def GivesDr (w : World) (e : Ending) (w' : World) : Prop :=
  ∃ (p f3 f5 : Int) (L2 : List Dat) (A2 : Option Addr) (n2 c2 : Nat) (L4 : List Dat) (A4 : Option Addr) (n4 c4 : Nat) (L6 : List Dat) (A6 : Option Addr) (n6 c6 : Nat) (u : Int), e = .returned (.tuple #[.agg #[.int .i64 p, .bool true, .slice A2 n2 c2, .int .i64 f3, .slice A4 n4 c4, .int .i64 f5, .slice A6 n6 c6], .int .i64 u]) ∧ Own3 (w.heap.size + 1) w'.heap.size w' L2 A2 n2 c2 L4 A4 n4 c4 L6 A6 n6 c6 ∧ LnkOk 40 L2 f3 L4 f5 L6 ∧ (0 ≤ u ∧ u ≤ 5) ∧ Below w.heap.size w w'
/-- Midway: the result's box, the link's box k, what was drawn. -/
def DrSt (W : World) (B g k : Nat) (p f3 f5 : Int) (L2 : List Dat) (A2 : Option Addr) (n2 c2 : Nat) (L4 : List Dat) (A4 : Option Addr) (n4 c4 : Nat) (L6 : List Dat) (A6 : Option Addr) (n6 c6 : Nat) (w : World) : Prop :=
  Cur w B g ∧ Below W.heap.size W w ∧ Zx W.heap.size [.int .i64 0, .bool false, .slice none 0 0, .int .i64 0, .slice none 0 0, .int .i64 0, .slice none 0 0] w ∧ Zx k [.int .i64 p, .bool true, .slice A2 n2 c2, .int .i64 f3, .slice A4 n4 c4, .int .i64 f5, .slice A6 n6 c6] w ∧ Own3 (g + 1) w.heap.size w L2 A2 n2 c2 L4 A4 n4 c4 L6 A6 n6 c6 ∧ (W.heap.size < g ∧ g < k)
section
variable {W w w' : World} {B g k : Nat} {p f3 f5 : Int} {L2 : List Dat} {A2 : Option Addr} {n2 c2 : Nat} {L4 : List Dat} {A4 : Option Addr} {n4 c4 : Nat} {L6 : List Dat} {A6 : Option Addr} {n6 c6 : Nat}
theorem DrSt.turn (h : DrSt W B g k p f3 f5 L2 A2 n2 c2 L4 A4 n4 c4 L6 A6 n6 c6 w) (hL : Left B g w w') : DrSt W B g k p f3 f5 L2 A2 n2 c2 L4 A4 n4 c4 L6 A6 n6 c6 w' :=
  ⟨hL.1, h.2.1.trans (hL.2.below (by have := h.2.2.2.2.2; omega) h.2.1.size), h.2.2.1.touch hL.2.touch9 (by have := h.2.2.2.2.2; omega), h.2.2.2.1.touch hL.2.touch9 (by have := h.2.2.2.2.2; omega), (h.2.2.2.2.1.touch hL.2.touch9 (fun b h1 e => by have := h1.1; omega)).mono (fun b h1 => ⟨h1.1, Nat.lt_of_lt_of_le h1.2 hL.2.size⟩), h.2.2.2.2.2⟩
theorem DrSt.low (h : DrSt W B g k p f3 f5 L2 A2 n2 c2 L4 A4 n4 c4 L6 A6 n6 c6 w) (hb : Below w.heap.size w w') : DrSt W B g k p f3 f5 L2 A2 n2 c2 L4 A4 n4 c4 L6 A6 n6 c6 w' :=
  ⟨h.1.low hb h.1.lt, h.2.1.trans (hb.mono h.2.1.size), h.2.2.1.below hb, h.2.2.2.1.below hb, (h.2.2.2.2.1.below hb).mono (fun b h1 => ⟨h1.1, Nat.lt_of_lt_of_le h1.2 hb.size⟩), h.2.2.2.2.2⟩
theorem DrSt.cur (h : DrSt W B g k p f3 f5 L2 A2 n2 c2 L4 A4 n4 c4 L6 A6 n6 c6 w) : Cur w B g := h.1
theorem DrSt.zres (h : DrSt W B g k p f3 f5 L2 A2 n2 c2 L4 A4 n4 c4 L6 A6 n6 c6 w) : Zx W.heap.size [.int .i64 0, .bool false, .slice none 0 0, .int .i64 0, .slice none 0 0, .int .i64 0, .slice none 0 0] w := h.2.2.1
theorem DrSt.zk (h : DrSt W B g k p f3 f5 L2 A2 n2 c2 L4 A4 n4 c4 L6 A6 n6 c6 w) : Zx k [.int .i64 p, .bool true, .slice A2 n2 c2, .int .i64 f3, .slice A4 n4 c4, .int .i64 f5, .slice A6 n6 c6] w := h.2.2.2.1
theorem DrSt.done {u : Int} (h : DrSt W B g k p f3 f5 L2 A2 n2 c2 L4 A4 n4 c4 L6 A6 n6 c6 w) (ok : LnkOk 40 L2 f3 L4 f5 L6) (hu : 0 ≤ u ∧ u ≤ 5) (hT : Touch (fun b => b = W.heap.size) w w') : GivesDr W (.returned (.tuple #[.agg #[.int .i64 p, .bool true, .slice A2 n2 c2, .int .i64 f3, .slice A4 n4 c4, .int .i64 f5, .slice A6 n6 c6], .int .i64 u])) w' := by
  have o := h.2.2.2.2.1.touch hT (fun b h1 e => by have := h1.1; have := h.2.2.2.2.2; omega)
  exact ⟨p, f3, f5, L2, A2, n2, c2, L4, A4, n4, c4, L6, A6, n6, c6, u, rfl, o.mono (fun b h1 => ⟨by have := h1.1; have := h.2.2.2.2.2; omega, Nat.lt_of_lt_of_le h1.2 hT.size⟩), ok, hu, h.2.1.trans (hT.below (fun b h => by rw [h]; exact Nat.le_refl _) h.2.1.size)⟩
end
set_option maxRecDepth 100000 in
set_option maxHeartbeats 8000000 in
theorem drawFindX (A : Option Addr) (n c : Nat) (w : World) (hC : Code w A n) (hn : n ≤ 1048576) : Calls Try.prog 43 #[.slice A n c] w (GivesDr w) := by
  have HB0 : Hid (Below w.heap.size w (w.alloc (.cells #[.int .i64 0, .bool false, .slice none 0 0, .int .i64 0, .slice none 0 0, .int .i64 0, .slice none 0 0] 27))) := Lib.hid ((Below.refl _ _).alloc (Nat.le_refl _) _)
  have z0 := Lib.hid (Zx.new w #[.int .i64 0, .bool false, .slice none 0 0, .int .i64 0, .slice none 0 0, .int .i64 0, .slice none 0 0] 27)
  have HC : Hid (Code (w.alloc (.cells #[.int .i64 0, .bool false, .slice none 0 0, .int .i64 0, .slice none 0 0, .int .i64 0, .slice none 0 0] 27)) A n) := Lib.hid (hC.lowF HB0.out)
  clear hC
  go_enter Try.func43, Try.ntmps43
  go_wp2_with fail
  refine (l1New A n c _ HC.out hn).mono ?_
  rintro e w1 ⟨g, rfl, hcur, hb⟩
  have hgw := hcur.ge
  simp only [World.size_alloc] at hcur hgw
  have HCU := Lib.hid hcur
  have z1 := Lib.hid (z0.out.below hb)
  have HB1 := Lib.hid (HB0.out.trans (hb.mono HB0.out.size))
  clear hb hcur z0 HB0
  go_wp2_with fail
  refine (l10Link (w.heap.size + 1) g _ HCU.out).mono ?_
  rintro e w2 ⟨p, f3, f5, L2, A2, n2, c2, L4, A4, n4, c4, L6, A6, n6, c6, rfl, hO, ok, hL⟩
  have hgl := HCU.out.lt
  have OK := Lib.hid ok
  have X : Hid (DrSt w (w.heap.size + 1) g w2.heap.size p f3 f5 L2 A2 n2 c2 L4 A4 n4 c4 L6 A6 n6 c6 (w2.alloc (.cells #[.int .i64 p, .bool true, .slice A2 n2 c2, .int .i64 f3, .slice A4 n4 c4, .int .i64 f5, .slice A6 n6 c6] 27))) := Lib.hid
    ⟨hL.1.alloc' _, ((HB1.out.trans (hL.2.below (by omega) HB1.out.size)).alloc (by have h1 := HB1.out.size; have h2 := hL.2.size; omega) _), (z1.out.touch hL.2.touch9 (by omega)).below ((Below.refl _ _).alloc (Nat.le_refl _) _), Zx.new w2 #[.int .i64 p, .bool true, .slice A2 n2 c2, .int .i64 f3, .slice A4 n4 c4, .int .i64 f5, .slice A6 n6 c6] 27, (hO.below ((Below.refl _ _).alloc (Nat.le_refl _) _)).mono (fun b h1 => ⟨by have := h1.1; omega, by have := h1.2; simp; omega⟩), by have h1 := hL.2.size; omega⟩
  clear z1 HB1 HCU hO ok hL
  have XD := Lib.hid (X.out.low (Below.refl _ _).drew)
  obtain ⟨z0, z1, z2, z3, z4, z5, z6, fz⟩ := X.out.zk.c7
  obtain ⟨q0, q1, q2, q3, q4, q5, q6, fq⟩ := X.out.zres.c7
  go_wp2_with fail
  go_region_law (first
    | (go_simp; go_at_call 62; (with_reducible refine (l1Below (w.heap.size + 1) g 6 _ (by omega) (by omega) XD.out.cur).mono ?_); rintro e w7 ⟨u, hu0, hu1, rfl, hL⟩; (have X5 := Lib.hid (XD.out.turn hL)); clear hL; (obtain ⟨a0, a1, a2, a3, a4, a5, a6, fa⟩ := X5.out.zk.c7); (obtain ⟨b0, b1, b2, b3, b4, b5, b6, fb⟩ := X5.out.zres.c7)))
  all_goals (
    go_wp2_with fail
    refine bodyPost_ret (v := .tuple #[.agg #[.int .i64 p, .bool true, .slice A2 n2 c2, .int .i64 f3, .slice A4 n4 c4, .int .i64 f5, .slice A6 n6 c6], .int .i64 u]) ?hres rfl ?hpost
    case hres =>
      refine results_box2 rfl _ _ (w.heap.size) [.int .i64 p, .bool true, .slice A2 n2 c2, .int .i64 f3, .slice A4 n4 c4, .int .i64 f5, .slice A6 n6 c6] (.int .i64 u) _ rfl rfl ?_ Try.underlying27 rfl (by kernel_rfl)
      refine Zx.box ?_
      repeat (first | with_reducible exact X5.out.zres | with_reducible refine Zx.drewB ?_ | with_reducible apply Zx.put7)
    case hpost => exact X5.out.done OK.out (by omega) (by repeat (first | with_reducible exact Touch.refl _ _ | with_reducible refine Touch.drew ?_ | with_reducible refine Touch.put7 ?_ (Eq.refl _))))
set_option maxRecDepth 100000 in
set_option maxHeartbeats 4000000 in
theorem drawPutX (A : Option Addr) (n c : Nat) (w : World) (hC : Code w A n) (hn : n ≤ 1048576) : Calls Try.prog 14 #[.slice A n c] w (GivesDr w) := by
  have HB0 : Hid (Below w.heap.size w (w.alloc (.cells #[.int .i64 0, .bool false, .slice none 0 0, .int .i64 0, .slice none 0 0, .int .i64 0, .slice none 0 0] 27))) := Lib.hid ((Below.refl _ _).alloc (Nat.le_refl _) _)
  have z0 := Lib.hid (Zx.new w #[.int .i64 0, .bool false, .slice none 0 0, .int .i64 0, .slice none 0 0, .int .i64 0, .slice none 0 0] 27)
  have HC : Hid (Code (w.alloc (.cells #[.int .i64 0, .bool false, .slice none 0 0, .int .i64 0, .slice none 0 0, .int .i64 0, .slice none 0 0] 27)) A n) := Lib.hid (hC.lowF HB0.out)
  clear hC
  go_enter Try.func14, Try.ntmps14
  go_wp2_with fail
  refine (drawFindX A n c _ HC.out hn).mono ?_
  rintro e w1 ⟨p, f3, f5, L2, A2, n2, c2, L4, A4, n4, c4, L6, A6, n6, c6, u, rfl, hO, ok, hu, hb⟩
  have ZR : Hid (Zx w.heap.size [.int .i64 0, .bool false, .slice none 0 0, .int .i64 0, .slice none 0 0, .int .i64 0, .slice none 0 0] w1) := Lib.hid (z0.out.below hb)
  have HB := Lib.hid (HB0.out.trans (hb.mono HB0.out.size))
  have HO := Lib.hid hO
  have OK := Lib.hid ok
  obtain ⟨q0, q1, q2, q3, q4, q5, q6, fq⟩ := ZR.out.c7
  clear z0 hb hO ok HB0
  go_wp2_with fail
  refine bodyPost_ret (v := .tuple #[.agg #[.int .i64 p, .bool true, .slice A2 n2 c2, .int .i64 f3, .slice A4 n4 c4, .int .i64 f5, .slice A6 n6 c6], .int .i64 u]) ?hres rfl ?hpost
  case hres =>
    refine results_box2 rfl _ _ (w.heap.size) [.int .i64 p, .bool true, .slice A2 n2 c2, .int .i64 f3, .slice A4 n4 c4, .int .i64 f5, .slice A6 n6 c6] (.int .i64 u) _ rfl rfl ?_ Try.underlying27 rfl (by kernel_rfl)
    refine Zx.box ?_
    repeat (first | with_reducible exact ZR.out | with_reducible refine Zx.drewB ?_ | with_reducible apply Zx.put7)
  case hpost =>
    suffices h9 : ∀ w' : World, Touch (fun b => b = w.heap.size) w1 w' → GivesDr w (.returned (.tuple #[.agg #[.int .i64 p, .bool true, .slice A2 n2 c2, .int .i64 f3, .slice A4 n4 c4, .int .i64 f5, .slice A6 n6 c6], .int .i64 u])) w' from h9 _ (by repeat (first | with_reducible exact Touch.refl _ _ | with_reducible refine Touch.drew ?_ | with_reducible refine Touch.put7 ?_ (Eq.refl _)))
    intro w' hT
    have o := HO.out.touch hT (fun b h1 e => by have := h1.1; simp only [World.size_alloc] at this; omega)
    exact ⟨p, f3, f5, L2, A2, n2, c2, L4, A4, n4, c4, L6, A6, n6, c6, u, rfl, o.mono (fun b h1 => ⟨by have := h1.1; simp only [World.size_alloc] at this; omega, Nat.lt_of_lt_of_le h1.2 hT.size⟩), OK.out, hu, HB.out.trans (hT.below (fun b h => by rw [h]; exact Nat.le_refl _) HB.out.size)⟩
end Go.Proofs.Ytdedioghljkflaa
