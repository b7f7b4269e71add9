/- Draws of chapter 9: DrawIsEntity, DrawNewObject. -/
import Derived.Test.YtfgijebgnkikpaaDraw9A
import Derived.Test.YtfgijebgnkikpaaLawE0
import Derived.Deep.RegionLaw
import Derived.LoopTactic
import Derived.Lib.Hide
import Derived.Deep.QuietTactic
import Derived.BigQuiet
import Derived.Deep.RegionWith
import Derived.Handy
namespace Go.Proofs.Ytfgijebgnkikpaa
open Go.RowKit
set_option linter.unusedVariables false
set_option linter.unusedSimpArgs false
/-- Its rows read, small. -/
def EntAt (L2 : List Dat) (A2 : Option Addr) (n2 c2 : Nat) (L5 : List Dat) (A5 : Option Addr) (n5 c5 : Nat) (L6 : List Dat) (A6 : Option Addr) (n6 c6 : Nat) (w : World) : Prop := (Lies w (.l L2) [.slice A2 n2 c2] ∧ Lies w (.l L5) [.slice A5 n5 c5] ∧ Lies w (.l L6) [.slice A6 n6 c6]) ∧ Small9 L2 A2 n2 c2 L5 A5 n5 c5 L6 A6 n6 c6
theorem EntAt.of {k : Nat} {L2 : List Dat} {A2 : Option Addr} {n2 c2 : Nat} {L5 : List Dat} {A5 : Option Addr} {n5 c5 : Nat} {L6 : List Dat} {A6 : Option Addr} {n6 c6 : Nat} {w : World} (h : Own9 k L2 A2 n2 c2 L5 A5 n5 c5 L6 A6 n6 c6 w) (hs : Small9 L2 A2 n2 c2 L5 A5 n5 c5 L6 A6 n6 c6) : EntAt L2 A2 n2 c2 L5 A5 n5 c5 L6 A6 n6 c6 w := ⟨⟨h.1.lies, h.2.1.lies, h.2.2.lies⟩, hs⟩
theorem EntAt.below {L2 : List Dat} {A2 : Option Addr} {n2 c2 : Nat} {L5 : List Dat} {A5 : Option Addr} {n5 c5 : Nat} {L6 : List Dat} {A6 : Option Addr} {n6 c6 : Nat} {w w' : World} (h : EntAt L2 A2 n2 c2 L5 A5 n5 c5 L6 A6 n6 c6 w) (hb : Below w.heap.size w w') : EntAt L2 A2 n2 c2 L5 A5 n5 c5 L6 A6 n6 c6 w' := ⟨⟨h.1.1.below hb, h.1.2.1.below hb, h.1.2.2.below hb⟩, h.2⟩
/-- An entity and a number. -/
def DrewEN (w : World) (e : Ending) (w' : World) : Prop := ∃ (f0 : Int) (f1 : Int) (L2 : List Dat) (A2 : Option Addr) (n2 c2 : Nat) (f3 : Int) (f4_0 : Int) (f4_1 : Int) (L5 : List Dat) (A5 : Option Addr) (n5 c5 : Nat) (L6 : List Dat) (A6 : Option Addr) (n6 c6 : Nat) (f7 : Int) (f8 : Int) (f9 : Int) (f10 : Int) (k : Int), e = .returned (.tuple #[.agg #[.int .i64 f0, .int .i64 f1, .slice A2 n2 c2, .int .i64 f3, .int .i64 f4_0, .int .i64 f4_1, .slice A5 n5 c5, .slice A6 n6 c6, .int .i64 f7, .int .i64 f8, .int .i64 f9, .int .i64 f10], .int .i64 k]) ∧ EntAt L2 A2 n2 c2 L5 A5 n5 c5 L6 A6 n6 c6 w' ∧ Below w.heap.size w w'
/-- Two entities. -/
def DrewEE (w : World) (e : Ending) (w' : World) : Prop := ∃ (f0 : Int) (f1 : Int) (L2 : List Dat) (A2 : Option Addr) (n2 c2 : Nat) (f3 : Int) (f4_0 : Int) (f4_1 : Int) (L5 : List Dat) (A5 : Option Addr) (n5 c5 : Nat) (L6 : List Dat) (A6 : Option Addr) (n6 c6 : Nat) (f7 : Int) (f8 : Int) (f9 : Int) (f10 : Int) (g0 : Int) (g1 : Int) (M2 : List Dat) (D2 : Option Addr) (m2 d2 : Nat) (g3 : Int) (g4_0 : Int) (g4_1 : Int) (M5 : List Dat) (D5 : Option Addr) (m5 d5 : Nat) (M6 : List Dat) (D6 : Option Addr) (m6 d6 : Nat) (g7 : Int) (g8 : Int) (g9 : Int) (g10 : Int), e = .returned (.tuple #[.agg #[.int .i64 f0, .int .i64 f1, .slice A2 n2 c2, .int .i64 f3, .int .i64 f4_0, .int .i64 f4_1, .slice A5 n5 c5, .slice A6 n6 c6, .int .i64 f7, .int .i64 f8, .int .i64 f9, .int .i64 f10], .agg #[.int .i64 g0, .int .i64 g1, .slice D2 m2 d2, .int .i64 g3, .int .i64 g4_0, .int .i64 g4_1, .slice D5 m5 d5, .slice D6 m6 d6, .int .i64 g7, .int .i64 g8, .int .i64 g9, .int .i64 g10]]) ∧ EntAt L2 A2 n2 c2 L5 A5 n5 c5 L6 A6 n6 c6 w' ∧ EntAt M2 D2 m2 d2 M5 D5 m5 d5 M6 D6 m6 d6 w' ∧ Below w.heap.size w w'
/-- A number and values. -/
def DrewNV (w : World) (e : Ending) (w' : World) : Prop := ∃ (s : Int) (A : Option Addr) (n c : Nat) (L : List Dat), e = .returned (.tuple #[.int .i64 s, .slice A n c]) ∧ Lies w' (.l L) [.slice A n c] ∧ (∀ x ∈ L, Has tyValue x) ∧ n ≤ 4 ∧ Below w.heap.size w w'
theorem Code.lowF {w w' : World} {A : Option Addr} {n : Nat} (h : Code w A n) (hb : Below w.heap.size w w') : Code w' A n := by
  obtain ⟨zs, h1, h2, h3, h4⟩ := h
  exact ⟨zs, h1, h2, h3, (h4.below hb).more hb.size⟩
set_option maxHeartbeats 1000000 in
theorem drawNewObj (A : Option Addr) (n c : Nat) (w : World) (hC : Code w A n) (hn : n ≤ 1048576) : Calls Try.prog 15 #[.slice A n c] w (DrewNV w) := by
  go_enter Try.func15, Try.ntmps15
  go_wp2_with fail
  refine (l1New A n c _ hC hn).mono ?_
  rintro e w1 ⟨g, rfl, hcur, hb1⟩
  go_wp2_with fail
  refine (l1Below w.heap.size g 4 _ (by omega) (by omega) hcur).mono ?_
  rintro e w2 ⟨x, hx0, hx1, rfl, hL⟩
  go_wp2_with fail
  refine (l4List9 w.heap.size g _ hL.1).mono ?_
  rintro e w3 ⟨A3, n3, c3, L, rfl, hO, hn3, hsm, hL3⟩
  have HZ : Hid (DrewNV w (.returned (.tuple #[.int .i64 x, .slice A3 n3 c3])) w3) := Lib.hid ⟨x, A3, n3, c3, L.map dOf, rfl, hO.fr.lies hO.cap.1, has_small hsm, hn3, hb1.trans ((hL.trans hL3).below hcur.ge hb1.size)⟩
  clear hO hL hL3 hsm hb1 hcur
  go_wp2_with fail
  refine bodyPost_ret (v := .tuple #[.int .i64 x, .slice A3 n3 c3]) (by simp [results, Try.results15, go_sem]) rfl ?_
  exact HZ.out
set_option maxRecDepth 100000 in
set_option maxHeartbeats 8000000 in
theorem drawIsEnt (A : Option Addr) (n c : Nat) (w : World) (hC : Code w A n) (hn : n ≤ 1048576) : Calls Try.prog 13 #[.slice A n c] w (DrewEN w) := by
  have HC := Lib.hid (hC.lowF (show Below w.heap.size w (w.alloc (.cells #[.int .i64 0, .int .i64 0, .slice none 0 0, .int .i64 0, .int .i64 0, .int .i64 0, .slice none 0 0, .slice none 0 0, .int .i64 0, .int .i64 0, .int .i64 0, .int .i64 0] 30)) by go_grown))
  have HB0 : Hid (Below w.heap.size w (w.alloc (.cells #[.int .i64 0, .int .i64 0, .slice none 0 0, .int .i64 0, .int .i64 0, .int .i64 0, .slice none 0 0, .slice none 0 0, .int .i64 0, .int .i64 0, .int .i64 0, .int .i64 0] 30))) := Lib.hid (by go_grown)
  have P0 := Lib.hid (Zb.new (B := w.heap.size) w #[.int .i64 0, .int .i64 0, .slice none 0 0, .int .i64 0, .int .i64 0, .int .i64 0, .slice none 0 0, .slice none 0 0, .int .i64 0, .int .i64 0, .int .i64 0, .int .i64 0] 30 (Nat.le_refl _))
  clear hC
  go_enter Try.func13, Try.ntmps13
  go_wp2_with fail
  refine (l1New A n c _ HC.out hn).mono ?_
  rintro e w1 ⟨g, rfl, hcur, hb1⟩
  have hgB := hcur.ge
  have hgl := hcur.lt
  have hs1 := hb1.size
  simp only [World.size_alloc] at hgB hs1
  have P1 := Lib.hid (P0.out.below hb1)
  have HB1 := Lib.hid (HB0.out.trans (hb1.mono (by simp only [World.size_alloc]; omega)))
  have HCUR := Lib.hid hcur
  clear hcur hb1 HB0 HC P0
  go_wp2_with fail
  refine (l9Any _ g _ HCUR.out).mono ?_
  rintro e w2 ⟨f0, f1, L2, A2, n2, c2, f3, f4_0, f4_1, L5, A5, n5, c5, L6, A6, n6, c6, f7, f8, f9, f10, rfl, hO, hSm, hL⟩
  have hs2 := hL.2.size
  have P2 := Lib.hid (P1.out.turn hL.2 (by omega))
  have HB2 := Lib.hid (HB1.out.trans ((hL.2.below (B := w.heap.size) (by omega) (by omega))))
  have HO := Lib.hid hO
  have HSM := Lib.hid hSm
  have hg2 : g < w2.heap.size := hL.1.lt
  have HC3 := Lib.hid (hL.1.alloc' (.cells #[.int .i64 f0, .int .i64 f1, .slice A2 n2 c2, .int .i64 f3, .int .i64 f4_0, .int .i64 f4_1, .slice A5 n5 c5, .slice A6 n6 c6, .int .i64 f7, .int .i64 f8, .int .i64 f9, .int .i64 f10] 30))
  have b3 := Lib.hid (Box.new w2 #[.int .i64 f0, .int .i64 f1, .slice A2 n2 c2, .int .i64 f3, .int .i64 f4_0, .int .i64 f4_1, .slice A5 n5 c5, .slice A6 n6 c6, .int .i64 f7, .int .i64 f8, .int .i64 f9, .int .i64 f10] 30)
  have HB3 := Lib.hid (HB2.out.alloc HB2.out.size (.cells #[.int .i64 f0, .int .i64 f1, .slice A2 n2 c2, .int .i64 f3, .int .i64 f4_0, .int .i64 f4_1, .slice A5 n5 c5, .slice A6 n6 c6, .int .i64 f7, .int .i64 f8, .int .i64 f9, .int .i64 f10] 30))
  have P3 := Lib.hid (P2.out.below ((Below.refl _ _).alloc (Nat.le_refl _) (.cells #[.int .i64 f0, .int .i64 f1, .slice A2 n2 c2, .int .i64 f3, .int .i64 f4_0, .int .i64 f4_1, .slice A5 n5 c5, .slice A6 n6 c6, .int .i64 f7, .int .i64 f8, .int .i64 f9, .int .i64 f10] 30)))
  have HO3 := Lib.hid (HO.out.below ((Below.refl _ _).alloc (Nat.le_refl _) (.cells #[.int .i64 f0, .int .i64 f1, .slice A2 n2 c2, .int .i64 f3, .int .i64 f4_0, .int .i64 f4_1, .slice A5 n5 c5, .slice A6 n6 c6, .int .i64 f7, .int .i64 f8, .int .i64 f9, .int .i64 f10] 30)))
  have hs3 : w2.heap.size + 1 = (w2.alloc (.cells #[.int .i64 f0, .int .i64 f1, .slice A2 n2 c2, .int .i64 f3, .int .i64 f4_0, .int .i64 f4_1, .slice A5 n5 c5, .slice A6 n6 c6, .int .i64 f7, .int .i64 f8, .int .i64 f9, .int .i64 f10] 30)).heap.size := by simp
  clear hO hSm hL P1 P2 HB1 HB2 HCUR HO
  have HC4 : Hid (Cur (w2.alloc (.cells #[.int .i64 f0, .int .i64 f1, .slice A2 n2 c2, .int .i64 f3, .int .i64 f4_0, .int .i64 f4_1, .slice A5 n5 c5, .slice A6 n6 c6, .int .i64 f7, .int .i64 f8, .int .i64 f9, .int .i64 f10] 30)).drew _ g) := Lib.hid HC3.out
  obtain ⟨x0, x1, x2, x3, x4, x5, x6, x7, x8, x9, x10, x11⟩ := b3.out.c12
  go_wp2_with fail
  go_region_law (first
    | (go_simp; go_at_call 48; (with_reducible refine (l1Below _ g 7 _ (by omega) (by omega) HC4.out).mono ?_); rintro e w4 ⟨x, hx0, hx1, rfl, hL4⟩; (have hL5 : Turn g (w2.alloc (.cells #[.int .i64 f0, .int .i64 f1, .slice A2 n2 c2, .int .i64 f3, .int .i64 f4_0, .int .i64 f4_1, .slice A5 n5 c5, .slice A6 n6 c6, .int .i64 f7, .int .i64 f8, .int .i64 f9, .int .i64 f10] 30)) w4 := ⟨hL4.2.os, hL4.2.tape, hL4.2.output, hL4.2.size, hL4.2.block⟩); (have P4 := Lib.hid (P3.out.turn hL5 (by omega))); (have b4 := Lib.hid (b3.out.turn hL5 (by omega))); (have HB4 := Lib.hid (HB3.out.trans (hL5.below (B := w.heap.size) (by omega) (by omega)))); (have HO4 := Lib.hid (HO3.out.touch (S := fun b => b = g) ⟨hL5.os, hL5.tape, hL5.output, hL5.size, fun k hk hn => hL5.block k hk hn⟩ (fun b hb e => by omega))); (have hs4 := hL5.size); clear hL4 hL5; (obtain ⟨y0, y1, y2, y3, y4, y5, y6, y7, y8, y9, y10, y11⟩ := b4.out.c12); (obtain ⟨q0, q1, q2, q3, q4, q5, q6, q7, q8, q9, q10, q11⟩ := P4.out.2.1.c12); (have fq := P4.out.2.2)))
  all_goals (
    go_wp2_with fail
    have lb : w.heap.size ≤ w.heap.size := Nat.le_refl _
    have l1 : w.heap.size ≤ w.heap.size + 1 := by omega
    have le : w.heap.size = w.heap.size := rfl
    have QB : Box w.heap.size [.int .i64 f0, .int .i64 f1, .slice A2 n2 c2, .int .i64 f3, .int .i64 f4_0, .int .i64 f4_1, .slice A5 n5 c5, .slice A6 n6 c6, .int .i64 f7, .int .i64 f8, .int .i64 f9, .int .i64 f10] ((((((((((((w4.setCell ⟨w.heap.size, 0, none⟩ (.int .i64 f0)).setCell ⟨w.heap.size, 1, none⟩ (.int .i64 f1)).setCell ⟨w.heap.size, 2, none⟩ (.slice A2 n2 c2)).setCell ⟨w.heap.size, 3, none⟩ (.int .i64 f3)).setCell ⟨w.heap.size, 4, none⟩ (.int .i64 f4_0)).setCell ⟨w.heap.size, 5, none⟩ (.int .i64 f4_1)).setCell ⟨w.heap.size, 6, none⟩ (.slice A5 n5 c5)).setCell ⟨w.heap.size, 7, none⟩ (.slice A6 n6 c6)).setCell ⟨w.heap.size, 8, none⟩ (.int .i64 f7)).setCell ⟨w.heap.size, 9, none⟩ (.int .i64 f8)).setCell ⟨w.heap.size, 10, none⟩ (.int .i64 f9)).setCell ⟨w.heap.size, 11, none⟩ (.int .i64 f10)) := ((((((((((((P4.out.2.1.put 0 _).put 1 _).put 2 _).put 3 _).put 4 _).put 5 _).put 6 _).put 7 _).put 8 _).put 9 _).put 10 _).put 11 _)
    have LQ : Below w.heap.size w ((((((((((((w4.setCell ⟨w.heap.size, 0, none⟩ (.int .i64 f0)).setCell ⟨w.heap.size, 1, none⟩ (.int .i64 f1)).setCell ⟨w.heap.size, 2, none⟩ (.slice A2 n2 c2)).setCell ⟨w.heap.size, 3, none⟩ (.int .i64 f3)).setCell ⟨w.heap.size, 4, none⟩ (.int .i64 f4_0)).setCell ⟨w.heap.size, 5, none⟩ (.int .i64 f4_1)).setCell ⟨w.heap.size, 6, none⟩ (.slice A5 n5 c5)).setCell ⟨w.heap.size, 7, none⟩ (.slice A6 n6 c6)).setCell ⟨w.heap.size, 8, none⟩ (.int .i64 f7)).setCell ⟨w.heap.size, 9, none⟩ (.int .i64 f8)).setCell ⟨w.heap.size, 10, none⟩ (.int .i64 f9)).setCell ⟨w.heap.size, 11, none⟩ (.int .i64 f10)) := ((((((((((((HB4.out.setCell lb _).setCell lb _).setCell lb _).setCell lb _).setCell lb _).setCell lb _).setCell lb _).setCell lb _).setCell lb _).setCell lb _).setCell lb _).setCell lb _)
    have OQ : Own9 w1.heap.size L2 A2 n2 c2 L5 A5 n5 c5 L6 A6 n6 c6 ((((((((((((w4.setCell ⟨w.heap.size, 0, none⟩ (.int .i64 f0)).setCell ⟨w.heap.size, 1, none⟩ (.int .i64 f1)).setCell ⟨w.heap.size, 2, none⟩ (.slice A2 n2 c2)).setCell ⟨w.heap.size, 3, none⟩ (.int .i64 f3)).setCell ⟨w.heap.size, 4, none⟩ (.int .i64 f4_0)).setCell ⟨w.heap.size, 5, none⟩ (.int .i64 f4_1)).setCell ⟨w.heap.size, 6, none⟩ (.slice A5 n5 c5)).setCell ⟨w.heap.size, 7, none⟩ (.slice A6 n6 c6)).setCell ⟨w.heap.size, 8, none⟩ (.int .i64 f7)).setCell ⟨w.heap.size, 9, none⟩ (.int .i64 f8)).setCell ⟨w.heap.size, 10, none⟩ (.int .i64 f9)).setCell ⟨w.heap.size, 11, none⟩ (.int .i64 f10)) := HO4.out.touch (((((((((((((Touch.refl (fun b => b = w.heap.size) w4).setCell le _).setCell le _).setCell le _).setCell le _).setCell le _).setCell le _).setCell le _).setCell le _).setCell le _).setCell le _).setCell le _).setCell le _) (fun b hb e => by omega)
    generalize ((((((((((((w4.setCell ⟨w.heap.size, 0, none⟩ (.int .i64 f0)).setCell ⟨w.heap.size, 1, none⟩ (.int .i64 f1)).setCell ⟨w.heap.size, 2, none⟩ (.slice A2 n2 c2)).setCell ⟨w.heap.size, 3, none⟩ (.int .i64 f3)).setCell ⟨w.heap.size, 4, none⟩ (.int .i64 f4_0)).setCell ⟨w.heap.size, 5, none⟩ (.int .i64 f4_1)).setCell ⟨w.heap.size, 6, none⟩ (.slice A5 n5 c5)).setCell ⟨w.heap.size, 7, none⟩ (.slice A6 n6 c6)).setCell ⟨w.heap.size, 8, none⟩ (.int .i64 f7)).setCell ⟨w.heap.size, 9, none⟩ (.int .i64 f8)).setCell ⟨w.heap.size, 10, none⟩ (.int .i64 f9)).setCell ⟨w.heap.size, 11, none⟩ (.int .i64 f10)) = w9 at QB LQ OQ ⊢
    have LQ' := Lib.hid LQ
    have OQ' := Lib.hid OQ
    obtain ⟨u0, u1, u2, u3, u4, u5, u6, u7, u8, u9, u10, u11⟩ := QB.c12
    clear LQ OQ QB
    refine bodyPost_ret (v := .tuple #[.agg #[.int .i64 f0, .int .i64 f1, .slice A2 n2 c2, .int .i64 f3, .int .i64 f4_0, .int .i64 f4_1, .slice A5 n5 c5, .slice A6 n6 c6, .int .i64 f7, .int .i64 f8, .int .i64 f9, .int .i64 f10], .int .i64 x]) (by simp [results, Try.results13, go_sem, u0, u1, u2, u3, u4, u5, u6, u7, u8, u9, u10, u11]) rfl ?_
    exact ⟨f0, f1, L2, A2, n2, c2, f3, f4_0, f4_1, L5, A5, n5, c5, L6, A6, n6, c6, f7, f8, f9, f10, x, rfl, EntAt.of OQ'.out HSM.out, LQ'.out⟩)
end Go.Proofs.Ytfgijebgnkikpaa
