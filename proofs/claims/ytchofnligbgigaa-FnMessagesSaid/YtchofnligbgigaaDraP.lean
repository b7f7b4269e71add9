/- Chapter 11's draws: l11Any. -/
import Derived.Test.YtchofnligbgigaaDraN
import Derived.Deep.RegionHeld3
import Derived.Deep.RegionLaw
import Derived.Deep.CutRange
import Derived.LoopTactic
import Derived.Lib.Hide
import Derived.Deep.QuietTactic
import Derived.BigQuiet
import Derived.Deep.RegionWith
import Derived.Handy
namespace Go.Proofs.Ytchofnligbgigaa
open Go.RowKit
set_option linter.unusedVariables false
set_option linter.unusedSimpArgs false
set_option maxRecDepth 100000 in
set_option maxHeartbeats 16000000 in
theorem l11AnyM (B g : Nat) (w : World) (hc : Cur w B g) : Calls Try.prog 37 #[.pointer (some ⟨g, 0, none⟩)] w (DrewM 3 B g w) := by
  obtain ⟨i0, hi, hz0, hz1, hz2⟩ := info_parts infoWire
  have hg := hc.lt
  have HNE : Hid (¬ (fun b => b = g) w.heap.size) := Lib.hid (fun h => by have h1 : w.heap.size = g := h; omega)
  have Zr : Hid (Zx w.heap.size [.int .i64 0, .int .i64 0, .int .i64 0, .int .i64 0, .string ⟨#[]⟩, .slice none 0 0, .int .i64 0, .int .i64 0, .int .i64 0, .int .i64 0, .int .i64 0, .int .i64 0] (w.alloc (.cells #[.int .i64 0, .int .i64 0, .int .i64 0, .int .i64 0, .string ⟨#[]⟩, .slice none 0 0, .int .i64 0, .int .i64 0, .int .i64 0, .int .i64 0, .int .i64 0, .int .i64 0] 30))) := Lib.hid (Zx.new w #[.int .i64 0, .int .i64 0, .int .i64 0, .int .i64 0, .string ⟨#[]⟩, .slice none 0 0, .int .i64 0, .int .i64 0, .int .i64 0, .int .i64 0, .int .i64 0, .int .i64 0] 30)
  have HL : Hid (Left B g w (w.alloc (.cells #[.int .i64 0, .int .i64 0, .int .i64 0, .int .i64 0, .string ⟨#[]⟩, .slice none 0 0, .int .i64 0, .int .i64 0, .int .i64 0, .int .i64 0, .int .i64 0, .int .i64 0] 30))) := Lib.hid ⟨hc.alloc' _, (Turn.refl g w).alloc _⟩
  clear hc
  go_enter Try.func37, Try.ntmps37
  go_wp2_with fail
  refine (l11Msg B g _ HL.out.1).mono ?_
  rintro e w1 ⟨f0, f1, f2, f3, f4, L5, A5, n5, c5, f6_0, f6_1, f7, f8_0, f8_1, f8_2, rfl, hG, ⟨hs8, hty, hl4⟩, hL⟩
  have G1 : Hid (Grow 26 2 (w.heap.size + 1) w1 A5 n5 c5 L5 (fun _ => False)) := Lib.hid (hG.moreF (fun a e => by have h1 := (hG.blkF a e).1; simp at h1; omega))
  have HTY := Lib.hid hty
  have HL4 := Lib.hid (hG.owns.lies.count)
  have hn4 : n5 ≤ 2 := by have h1 := HL4.out; omega
  clear hG hty
  replace Zr := Lib.hid (Zr.out.touch (Touch.of_turn hL.2) HNE.out)
  replace HL : Hid (Left B g w w1) := Lib.hid (HL.out.trans hL)
  clear hL
  have hlt1 := Zr.out.lt
  have hb : Below w1.heap.size w1 (w1.alloc (.cells #[.int .i64 (f0), .int .i64 (f1), .int .i64 (f2), .int .i64 (f3), .string f4, .slice A5 n5 c5, .int .i64 (f6_0), .int .i64 (f6_1), .int .i64 (f7), .int .i64 (f8_0), .int .i64 (f8_1), .int .i64 (f8_2)] 30)) := (Below.refl _ _).alloc (Nat.le_refl _) _
  have X : Hid (DmS w B g w1.heap.size [.int .i64 (f0), .int .i64 (f1), .int .i64 (f2), .int .i64 (f3), .string f4, .slice A5 n5 c5, .int .i64 (f6_0), .int .i64 (f6_1), .int .i64 (f7), .int .i64 (f8_0), .int .i64 (f8_1), .int .i64 (f8_2)] L5 A5 n5 c5 (w1.alloc (.cells #[.int .i64 (f0), .int .i64 (f1), .int .i64 (f2), .int .i64 (f3), .string f4, .slice A5 n5 c5, .int .i64 (f6_0), .int .i64 (f6_1), .int .i64 (f7), .int .i64 (f8_0), .int .i64 (f8_1), .int .i64 (f8_2)] 30))) := Lib.hid ⟨HL.out.low hb HL.out.2.size (by omega), Zr.out.below hb, Zx.new w1 #[.int .i64 (f0), .int .i64 (f1), .int .i64 (f2), .int .i64 (f3), .string f4, .slice A5 n5 c5, .int .i64 (f6_0), .int .i64 (f6_1), .int .i64 (f7), .int .i64 (f8_0), .int .i64 (f8_1), .int .i64 (f8_2)] 30, G1.out.below hb, (fun a e hx => by have h1 := (G1.out.blkF a e).2; omega), ⟨hlt1, hg⟩⟩
  clear hb Zr HL G1 hl4
  go_wp2_with fail
  refine (l1Below B g 12 _ (by omega) (by omega) X.out.cur).mono ?_
  rintro e w2 ⟨x, hx0, hx1, rfl, hL⟩
  replace X := Lib.hid (X.out.turn hL)
  have hlt2 := X.out.r.lt
  clear hL
  by_cases h0 : x = 0
  · subst h0
    go_wp2_with fail
    refine (l1Below B g 8 _ (by omega) (by omega) X.out.cur).mono ?_
    rintro e w3 ⟨y, hy0, hy1, rfl, hL⟩
    replace X := Lib.hid (X.out.turn hL)
    clear hL
    obtain ⟨z0, z1, z2, z3, z4, z5, z6, z7, z8, z9, z10, z11, fz⟩ := X.out.m.c12
    obtain ⟨y0, y1, y2, y3, y4, y5, y6, y7, y8, y9, y10, y11, fy⟩ := X.out.r.c12
    go_upto_region 17 with (fail)
    clear z0 z1 z2 z3 z4 z5 z6 z7 z8 z9 z10 z11 fz y0 y1 y2 y3 y4 y5 y6 y7 y8 y9 y10 y11 fy
    replace X : Hid (DmS w B g w1.heap.size [.int .i64 y, .int .i64 (f1), .int .i64 (f2), .int .i64 (f3), .string f4, .slice A5 n5 c5, .int .i64 (f6_0), .int .i64 (f6_1), .int .i64 (f7), .int .i64 (f8_0), .int .i64 (f8_1), .int .i64 (f8_2)] L5 A5 n5 c5 (w3.setCell ⟨w1.heap.size, 0, none⟩ (.int .i64 y))) := Lib.hid (X.out.put 0 (.int .i64 y))
    have hs9 : w3.heap.size ≤ (w3.setCell ⟨w1.heap.size, 0, none⟩ (.int .i64 y)).heap.size := by simp
    generalize (w3.setCell ⟨w1.heap.size, 0, none⟩ (.int .i64 y)) = w4 at *
    have hlt3 := X.out.r.lt
    obtain ⟨z0, z1, z2, z3, z4, z5, z6, z7, z8, z9, z10, z11, fz⟩ := X.out.m.c12
    obtain ⟨y0, y1, y2, y3, y4, y5, y6, y7, y8, y9, y10, y11, fy⟩ := X.out.r.c12
    go_wp2_with (
      with_reducible refine bodyPost_ret (v := .agg #[.int .i64 (y), .int .i64 (f1), .int .i64 (f2), .int .i64 (f3), .string f4, .slice A5 n5 c5, .int .i64 (f6_0), .int .i64 (f6_1), .int .i64 (f7), .int .i64 (f8_0), .int .i64 (f8_1), .int .i64 (f8_2)]) ?hres rfl ?hpost
      case hres =>
        refine results_box rfl _ _ (w.heap.size) [.int .i64 (y), .int .i64 (f1), .int .i64 (f2), .int .i64 (f3), .string f4, .slice A5 n5 c5, .int .i64 (f6_0), .int .i64 (f6_1), .int .i64 (f7), .int .i64 (f8_0), .int .i64 (f8_1), .int .i64 (f8_2)] _ rfl ?_ Try.underlying30 rfl (by kernel_rfl)
        refine Zx.box ?_
        repeat (first | with_reducible exact X.out.r | with_reducible refine Zx.drewB ?_ | with_reducible apply Zx.put12)
      case hpost =>
        suffices h9 : ∀ w' : World, Touch (fun b => b = w.heap.size) w4 w' → DrewM 3 B g w (.returned (.agg #[.int .i64 (y), .int .i64 (f1), .int .i64 (f2), .int .i64 (f3), .string f4, .slice A5 n5 c5, .int .i64 (f6_0), .int .i64 (f6_1), .int .i64 (f7), .int .i64 (f8_0), .int .i64 (f8_1), .int .i64 (f8_2)])) w' from h9 _ (by repeat (first | with_reducible exact Touch.refl _ _ | with_reducible refine Touch.drew ?_ | with_reducible refine Touch.put12 ?_ (Eq.refl _)))
        intro w' hT9
        exact DrewM.of (y) (f1) (f2) (f3) f4 L5 A5 n5 c5 (f6_0) (f6_1) (f7) (f8_0) (f8_1) (f8_2) X.out.G ⟨by omega, HTY.out, by have h1 := HL4.out; omega⟩ X.out.left hg hT9)
  by_cases h1 : x = 1
  · subst h1
    go_wp2_with fail
    refine (l1Int_new B g [-1, 0, 1, 1000000] 4 (-1) 1000000 w2 rfl (by intro z hz; simp at hz; omega) (by omega) (by omega) X.out.cur _ (by simp) _).mono ?_
    rintro e w3 ⟨y, hy0, hy1, rfl, hL⟩
    replace X := Lib.hid (X.out.turn hL)
    clear hL
    obtain ⟨z0, z1, z2, z3, z4, z5, z6, z7, z8, z9, z10, z11, fz⟩ := X.out.m.c12
    obtain ⟨y0, y1, y2, y3, y4, y5, y6, y7, y8, y9, y10, y11, fy⟩ := X.out.r.c12
    go_upto_region 17 with (fail)
    clear z0 z1 z2 z3 z4 z5 z6 z7 z8 z9 z10 z11 fz y0 y1 y2 y3 y4 y5 y6 y7 y8 y9 y10 y11 fy
    replace X : Hid (DmS w B g w1.heap.size [.int .i64 (f0), .int .i64 y, .int .i64 (f2), .int .i64 (f3), .string f4, .slice A5 n5 c5, .int .i64 (f6_0), .int .i64 (f6_1), .int .i64 (f7), .int .i64 (f8_0), .int .i64 (f8_1), .int .i64 (f8_2)] L5 A5 n5 c5 (w3.setCell ⟨w1.heap.size, 1, none⟩ (.int .i64 y))) := Lib.hid (X.out.put 1 (.int .i64 y))
    have hs9 : w3.heap.size ≤ (w3.setCell ⟨w1.heap.size, 1, none⟩ (.int .i64 y)).heap.size := by simp
    generalize (w3.setCell ⟨w1.heap.size, 1, none⟩ (.int .i64 y)) = w4 at *
    have hlt3 := X.out.r.lt
    obtain ⟨z0, z1, z2, z3, z4, z5, z6, z7, z8, z9, z10, z11, fz⟩ := X.out.m.c12
    obtain ⟨y0, y1, y2, y3, y4, y5, y6, y7, y8, y9, y10, y11, fy⟩ := X.out.r.c12
    go_wp2_with (
      with_reducible refine bodyPost_ret (v := .agg #[.int .i64 (f0), .int .i64 (y), .int .i64 (f2), .int .i64 (f3), .string f4, .slice A5 n5 c5, .int .i64 (f6_0), .int .i64 (f6_1), .int .i64 (f7), .int .i64 (f8_0), .int .i64 (f8_1), .int .i64 (f8_2)]) ?hres rfl ?hpost
      case hres =>
        refine results_box rfl _ _ (w.heap.size) [.int .i64 (f0), .int .i64 (y), .int .i64 (f2), .int .i64 (f3), .string f4, .slice A5 n5 c5, .int .i64 (f6_0), .int .i64 (f6_1), .int .i64 (f7), .int .i64 (f8_0), .int .i64 (f8_1), .int .i64 (f8_2)] _ rfl ?_ Try.underlying30 rfl (by kernel_rfl)
        refine Zx.box ?_
        repeat (first | with_reducible exact X.out.r | with_reducible refine Zx.drewB ?_ | with_reducible apply Zx.put12)
      case hpost =>
        suffices h9 : ∀ w' : World, Touch (fun b => b = w.heap.size) w4 w' → DrewM 3 B g w (.returned (.agg #[.int .i64 (f0), .int .i64 (y), .int .i64 (f2), .int .i64 (f3), .string f4, .slice A5 n5 c5, .int .i64 (f6_0), .int .i64 (f6_1), .int .i64 (f7), .int .i64 (f8_0), .int .i64 (f8_1), .int .i64 (f8_2)])) w' from h9 _ (by repeat (first | with_reducible exact Touch.refl _ _ | with_reducible refine Touch.drew ?_ | with_reducible refine Touch.put12 ?_ (Eq.refl _)))
        intro w' hT9
        exact DrewM.of (f0) (y) (f2) (f3) f4 L5 A5 n5 c5 (f6_0) (f6_1) (f7) (f8_0) (f8_1) (f8_2) X.out.G ⟨by omega, HTY.out, by have h1 := HL4.out; omega⟩ X.out.left hg hT9)
  by_cases h2 : x = 2
  · subst h2
    have XD := Lib.hid X.out.drew
    obtain ⟨z0, z1, z2, z3, z4, z5, z6, z7, z8, z9, z10, z11, fz⟩ := X.out.m.c12
    go_wp2_with fail
    go_region_law (first
      | (go_simp; go_at_call 70; (with_reducible refine (l11AnyW B g _ XD.out.cur).mono ?_); rintro e u2 ⟨k1, n1, rfl, hkn, hL2⟩; have X2 := Lib.hid (XD.out.turn hL2); have HKN := Lib.hid hkn; obtain ⟨y0, y1, y2, y3, y4, y5, y6, y7, y8, y9, y10, y11, fy⟩ := X2.out.m.c12; have zl5 : ∀ o, (u2.alloc o).cell? ⟨w1.heap.size, 5, none⟩ = some (.slice A5 n5 c5) := (fun o => ((X2.out.m.below ((Below.refl _ _).alloc (Nat.le_refl _) o)).c12).2.2.2.2.2.1); have GA : Hid (Grow 26 2 (w.heap.size + 1) (u2.alloc (.cells #[.int .i64 k1, .int .i64 n1] 26)) A5 n5 c5 L5 (fun _ => False)) := Lib.hid (X2.out.G.below ((Below.refl _ _).alloc (Nat.le_refl _) _)); have SL : Hid (Src 2 (u2.alloc (.cells #[.int .i64 k1, .int .i64 n1] 26)) (some ⟨u2.heap.size, 0, none⟩) 1 [.r [.i k1, .i n1]] (fun _ => False)) := Lib.hid (Src.lit (w := u2) (C := #[.int .i64 k1, .int .i64 n1]) (E := 26) rfl (ownWire (Iv := fun _ => False)) rfl (fun b h => h.elim)); have HLQ : Hid (w.heap.size + 1 ≤ (u2.alloc (.cells #[.int .i64 k1, .int .i64 n1] 26)).heap.size) := Lib.hid (by have h1 := X2.out.r.lt; simp; omega); clear hL2 hkn)
      | (refine step_append_dat _ rfl _ _ 24 rfl 2 (by omega) 26 i0 _ 16 Try.underlying24 hi hz0 hz1 rfl hz2 (w.heap.size + 1) A5 n5 c5 L5 (fun _ => False) rfl GA.out (some ⟨u2.heap.size, 0, none⟩) 1 1 [.r [.i k1, .i n1]] (fun _ => False) rfl SL.out (fun b h => h.elim) (fun a e h => h) (by unfold maxLen; omega) (by omega) HLQ.out ?_; intro A8 c8 wa hG8 hT8 hA8; have X8 := Lib.hid (X2.out.grown ((Below.refl _ _).alloc (Nat.le_refl _) (.cells #[.int .i64 k1, .int .i64 n1] 26)) hG8.copied9 hT8 hA8); obtain ⟨v0, v1, v2, v3, v4, v5, v6, v7, v8, v9, v10, v11, fv⟩ := X8.out.m.c12; clear hG8 hT8 hA8 GA SL HLQ))
    all_goals (
      have HTY8 := Lib.hid (MsOk.snoc HTY.out HKN.out)
      have X9 := Lib.hid (X8.out.put 5 (.slice A8 (n5 + 1) c8))
      go_upto_region 17 with (fail)
      generalize wa.setCell ⟨w1.heap.size, 5, none⟩ (.slice A8 (n5 + 1) c8) = w4 at *
      clear X
      have X : Hid (DmS w B g w1.heap.size [.int .i64 (f0), .int .i64 (f1), .int .i64 (f2), .int .i64 (f3), .string f4, .slice A8 (n5 + 1) c8, .int .i64 (f6_0), .int .i64 (f6_1), .int .i64 (f7), .int .i64 (f8_0), .int .i64 (f8_1), .int .i64 (f8_2)] (L5 ++ [Dat.r [.i k1, .i n1]]) A8 (n5 + 1) c8 w4) := X9
      have hlt3 := X.out.r.lt
      clear v0 v1 v2 v3 v4 v5 v6 v7 v8 v9 v10 v11 fv
      obtain ⟨z0, z1, z2, z3, z4, z5, z6, z7, z8, z9, z10, z11, fz⟩ := X.out.m.c12
      obtain ⟨y0, y1, y2, y3, y4, y5, y6, y7, y8, y9, y10, y11, fy⟩ := X.out.r.c12
      go_wp2_with (
        with_reducible refine bodyPost_ret (v := .agg #[.int .i64 (f0), .int .i64 (f1), .int .i64 (f2), .int .i64 (f3), .string f4, .slice A8 (n5 + 1) c8, .int .i64 (f6_0), .int .i64 (f6_1), .int .i64 (f7), .int .i64 (f8_0), .int .i64 (f8_1), .int .i64 (f8_2)]) ?hres rfl ?hpost
        case hres =>
          refine results_box rfl _ _ (w.heap.size) [.int .i64 (f0), .int .i64 (f1), .int .i64 (f2), .int .i64 (f3), .string f4, .slice A8 (n5 + 1) c8, .int .i64 (f6_0), .int .i64 (f6_1), .int .i64 (f7), .int .i64 (f8_0), .int .i64 (f8_1), .int .i64 (f8_2)] _ rfl ?_ Try.underlying30 rfl (by kernel_rfl)
          refine Zx.box ?_
          repeat (first | with_reducible exact X.out.r | with_reducible refine Zx.drewB ?_ | with_reducible apply Zx.put12)
        case hpost =>
          suffices h9 : ∀ w' : World, Touch (fun b => b = w.heap.size) w4 w' → DrewM 3 B g w (.returned (.agg #[.int .i64 (f0), .int .i64 (f1), .int .i64 (f2), .int .i64 (f3), .string f4, .slice A8 (n5 + 1) c8, .int .i64 (f6_0), .int .i64 (f6_1), .int .i64 (f7), .int .i64 (f8_0), .int .i64 (f8_1), .int .i64 (f8_2)])) w' from h9 _ (by repeat (first | with_reducible exact Touch.refl _ _ | with_reducible refine Touch.drew ?_ | with_reducible refine Touch.put12 ?_ (Eq.refl _)))
          intro w' hT9
          exact DrewM.of (f0) (f1) (f2) (f3) f4 (L5 ++ [Dat.r [.i k1, .i n1]]) A8 (n5 + 1) c8 (f6_0) (f6_1) (f7) (f8_0) (f8_1) (f8_2) X.out.G ⟨by omega, HTY8.out, by rw [List.length_append, HL4.out]; show n5 + 1 ≤ 3; omega⟩ X.out.left hg hT9))
  by_cases h3 : x = 3
  · subst h3
    go_wp2_with fail
    refine (l11AnyW B g _ X.out.cur).mono ?_
    rintro e w3 ⟨k, n, rfl, hkn, hL⟩
    replace X := Lib.hid (X.out.turn hL)
    clear hL
    obtain ⟨z0, z1, z2, z3, z4, z5, z6, z7, z8, z9, z10, z11, fz⟩ := X.out.m.c12
    obtain ⟨y0, y1, y2, y3, y4, y5, y6, y7, y8, y9, y10, y11, fy⟩ := X.out.r.c12
    go_upto_region 17 with (fail)
    clear z0 z1 z2 z3 z4 z5 z6 z7 z8 z9 z10 z11 fz y0 y1 y2 y3 y4 y5 y6 y7 y8 y9 y10 y11 fy
    replace X : Hid (DmS w B g w1.heap.size [.int .i64 (f0), .int .i64 (f1), .int .i64 (f2), .int .i64 (f3), .string f4, .slice A5 n5 c5, .int .i64 k, .int .i64 n, .int .i64 (f7), .int .i64 (f8_0), .int .i64 (f8_1), .int .i64 (f8_2)] L5 A5 n5 c5 ((w3.setCell ⟨w1.heap.size, 6, none⟩ (.int .i64 k)).setCell ⟨w1.heap.size, 7, none⟩ (.int .i64 n))) := Lib.hid ((X.out.put 6 (.int .i64 k)).put 7 (.int .i64 n))
    have hs9 : w3.heap.size ≤ ((w3.setCell ⟨w1.heap.size, 6, none⟩ (.int .i64 k)).setCell ⟨w1.heap.size, 7, none⟩ (.int .i64 n)).heap.size := by simp
    generalize ((w3.setCell ⟨w1.heap.size, 6, none⟩ (.int .i64 k)).setCell ⟨w1.heap.size, 7, none⟩ (.int .i64 n)) = w4 at *
    have hlt3 := X.out.r.lt
    obtain ⟨z0, z1, z2, z3, z4, z5, z6, z7, z8, z9, z10, z11, fz⟩ := X.out.m.c12
    obtain ⟨y0, y1, y2, y3, y4, y5, y6, y7, y8, y9, y10, y11, fy⟩ := X.out.r.c12
    go_wp2_with (
      with_reducible refine bodyPost_ret (v := .agg #[.int .i64 (f0), .int .i64 (f1), .int .i64 (f2), .int .i64 (f3), .string f4, .slice A5 n5 c5, .int .i64 (k), .int .i64 (n), .int .i64 (f7), .int .i64 (f8_0), .int .i64 (f8_1), .int .i64 (f8_2)]) ?hres rfl ?hpost
      case hres =>
        refine results_box rfl _ _ (w.heap.size) [.int .i64 (f0), .int .i64 (f1), .int .i64 (f2), .int .i64 (f3), .string f4, .slice A5 n5 c5, .int .i64 (k), .int .i64 (n), .int .i64 (f7), .int .i64 (f8_0), .int .i64 (f8_1), .int .i64 (f8_2)] _ rfl ?_ Try.underlying30 rfl (by kernel_rfl)
        refine Zx.box ?_
        repeat (first | with_reducible exact X.out.r | with_reducible refine Zx.drewB ?_ | with_reducible apply Zx.put12)
      case hpost =>
        suffices h9 : ∀ w' : World, Touch (fun b => b = w.heap.size) w4 w' → DrewM 3 B g w (.returned (.agg #[.int .i64 (f0), .int .i64 (f1), .int .i64 (f2), .int .i64 (f3), .string f4, .slice A5 n5 c5, .int .i64 (k), .int .i64 (n), .int .i64 (f7), .int .i64 (f8_0), .int .i64 (f8_1), .int .i64 (f8_2)])) w' from h9 _ (by repeat (first | with_reducible exact Touch.refl _ _ | with_reducible refine Touch.drew ?_ | with_reducible refine Touch.put12 ?_ (Eq.refl _)))
        intro w' hT9
        exact DrewM.of (f0) (f1) (f2) (f3) f4 L5 A5 n5 c5 (k) (n) (f7) (f8_0) (f8_1) (f8_2) X.out.G ⟨by omega, HTY.out, by have h1 := HL4.out; omega⟩ X.out.left hg hT9)
  by_cases h4 : x = 4
  · subst h4
    go_wp2_with fail
    refine (l1Int_new B g [0, 999999, 1000000] 3 (0) 1000000 w2 rfl (by intro z hz; simp at hz; omega) (by omega) (by omega) X.out.cur _ (by simp) _).mono ?_
    rintro e w3 ⟨y, hy0, hy1, rfl, hL⟩
    replace X := Lib.hid (X.out.turn hL)
    clear hL
    obtain ⟨z0, z1, z2, z3, z4, z5, z6, z7, z8, z9, z10, z11, fz⟩ := X.out.m.c12
    obtain ⟨y0, y1, y2, y3, y4, y5, y6, y7, y8, y9, y10, y11, fy⟩ := X.out.r.c12
    go_upto_region 17 with (fail)
    clear z0 z1 z2 z3 z4 z5 z6 z7 z8 z9 z10 z11 fz y0 y1 y2 y3 y4 y5 y6 y7 y8 y9 y10 y11 fy
    replace X : Hid (DmS w B g w1.heap.size [.int .i64 (f0), .int .i64 (f1), .int .i64 (f2), .int .i64 y, .string f4, .slice A5 n5 c5, .int .i64 (f6_0), .int .i64 (f6_1), .int .i64 (f7), .int .i64 (f8_0), .int .i64 (f8_1), .int .i64 (f8_2)] L5 A5 n5 c5 (w3.setCell ⟨w1.heap.size, 3, none⟩ (.int .i64 y))) := Lib.hid (X.out.put 3 (.int .i64 y))
    have hs9 : w3.heap.size ≤ (w3.setCell ⟨w1.heap.size, 3, none⟩ (.int .i64 y)).heap.size := by simp
    generalize (w3.setCell ⟨w1.heap.size, 3, none⟩ (.int .i64 y)) = w4 at *
    have hlt3 := X.out.r.lt
    obtain ⟨z0, z1, z2, z3, z4, z5, z6, z7, z8, z9, z10, z11, fz⟩ := X.out.m.c12
    obtain ⟨y0, y1, y2, y3, y4, y5, y6, y7, y8, y9, y10, y11, fy⟩ := X.out.r.c12
    go_wp2_with (
      with_reducible refine bodyPost_ret (v := .agg #[.int .i64 (f0), .int .i64 (f1), .int .i64 (f2), .int .i64 (y), .string f4, .slice A5 n5 c5, .int .i64 (f6_0), .int .i64 (f6_1), .int .i64 (f7), .int .i64 (f8_0), .int .i64 (f8_1), .int .i64 (f8_2)]) ?hres rfl ?hpost
      case hres =>
        refine results_box rfl _ _ (w.heap.size) [.int .i64 (f0), .int .i64 (f1), .int .i64 (f2), .int .i64 (y), .string f4, .slice A5 n5 c5, .int .i64 (f6_0), .int .i64 (f6_1), .int .i64 (f7), .int .i64 (f8_0), .int .i64 (f8_1), .int .i64 (f8_2)] _ rfl ?_ Try.underlying30 rfl (by kernel_rfl)
        refine Zx.box ?_
        repeat (first | with_reducible exact X.out.r | with_reducible refine Zx.drewB ?_ | with_reducible apply Zx.put12)
      case hpost =>
        suffices h9 : ∀ w' : World, Touch (fun b => b = w.heap.size) w4 w' → DrewM 3 B g w (.returned (.agg #[.int .i64 (f0), .int .i64 (f1), .int .i64 (f2), .int .i64 (y), .string f4, .slice A5 n5 c5, .int .i64 (f6_0), .int .i64 (f6_1), .int .i64 (f7), .int .i64 (f8_0), .int .i64 (f8_1), .int .i64 (f8_2)])) w' from h9 _ (by repeat (first | with_reducible exact Touch.refl _ _ | with_reducible refine Touch.drew ?_ | with_reducible refine Touch.put12 ?_ (Eq.refl _)))
        intro w' hT9
        exact DrewM.of (f0) (f1) (f2) (y) f4 L5 A5 n5 c5 (f6_0) (f6_1) (f7) (f8_0) (f8_1) (f8_2) X.out.G ⟨by omega, HTY.out, by have h1 := HL4.out; omega⟩ X.out.left hg hT9)
  by_cases h5 : x = 5
  · subst h5
    go_wp2_with fail
    refine (l1Str_new B g [⟨#[]⟩, ⟨#[97, 98, 99, 100, 101, 102, 103]⟩, ⟨#[65]⟩] 3 8 w2 rfl (by decide) (by omega) (by omega) X.out.cur _ rfl _).mono ?_
    rintro e w3 ⟨s, hs, rfl, hL⟩
    replace X := Lib.hid (X.out.turn hL)
    clear hL
    obtain ⟨z0, z1, z2, z3, z4, z5, z6, z7, z8, z9, z10, z11, fz⟩ := X.out.m.c12
    obtain ⟨y0, y1, y2, y3, y4, y5, y6, y7, y8, y9, y10, y11, fy⟩ := X.out.r.c12
    go_upto_region 17 with (fail)
    clear z0 z1 z2 z3 z4 z5 z6 z7 z8 z9 z10 z11 fz y0 y1 y2 y3 y4 y5 y6 y7 y8 y9 y10 y11 fy
    replace X : Hid (DmS w B g w1.heap.size [.int .i64 (f0), .int .i64 (f1), .int .i64 (f2), .int .i64 (f3), .string s, .slice A5 n5 c5, .int .i64 (f6_0), .int .i64 (f6_1), .int .i64 (f7), .int .i64 (f8_0), .int .i64 (f8_1), .int .i64 (f8_2)] L5 A5 n5 c5 (w3.setCell ⟨w1.heap.size, 4, none⟩ (.string s))) := Lib.hid (X.out.put 4 (.string s))
    have hs9 : w3.heap.size ≤ (w3.setCell ⟨w1.heap.size, 4, none⟩ (.string s)).heap.size := by simp
    generalize (w3.setCell ⟨w1.heap.size, 4, none⟩ (.string s)) = w4 at *
    have hlt3 := X.out.r.lt
    obtain ⟨z0, z1, z2, z3, z4, z5, z6, z7, z8, z9, z10, z11, fz⟩ := X.out.m.c12
    obtain ⟨y0, y1, y2, y3, y4, y5, y6, y7, y8, y9, y10, y11, fy⟩ := X.out.r.c12
    go_wp2_with (
      with_reducible refine bodyPost_ret (v := .agg #[.int .i64 (f0), .int .i64 (f1), .int .i64 (f2), .int .i64 (f3), .string s, .slice A5 n5 c5, .int .i64 (f6_0), .int .i64 (f6_1), .int .i64 (f7), .int .i64 (f8_0), .int .i64 (f8_1), .int .i64 (f8_2)]) ?hres rfl ?hpost
      case hres =>
        refine results_box rfl _ _ (w.heap.size) [.int .i64 (f0), .int .i64 (f1), .int .i64 (f2), .int .i64 (f3), .string s, .slice A5 n5 c5, .int .i64 (f6_0), .int .i64 (f6_1), .int .i64 (f7), .int .i64 (f8_0), .int .i64 (f8_1), .int .i64 (f8_2)] _ rfl ?_ Try.underlying30 rfl (by kernel_rfl)
        refine Zx.box ?_
        repeat (first | with_reducible exact X.out.r | with_reducible refine Zx.drewB ?_ | with_reducible apply Zx.put12)
      case hpost =>
        suffices h9 : ∀ w' : World, Touch (fun b => b = w.heap.size) w4 w' → DrewM 3 B g w (.returned (.agg #[.int .i64 (f0), .int .i64 (f1), .int .i64 (f2), .int .i64 (f3), .string s, .slice A5 n5 c5, .int .i64 (f6_0), .int .i64 (f6_1), .int .i64 (f7), .int .i64 (f8_0), .int .i64 (f8_1), .int .i64 (f8_2)])) w' from h9 _ (by repeat (first | with_reducible exact Touch.refl _ _ | with_reducible refine Touch.drew ?_ | with_reducible refine Touch.put12 ?_ (Eq.refl _)))
        intro w' hT9
        exact DrewM.of (f0) (f1) (f2) (f3) s L5 A5 n5 c5 (f6_0) (f6_1) (f7) (f8_0) (f8_1) (f8_2) X.out.G ⟨by omega, HTY.out, by have h1 := HL4.out; omega⟩ X.out.left hg hT9)
  by_cases h6 : x = 6
  · subst h6
    go_wp2_with fail
    refine (l1Int_new B g [0, -1, 1000000] 3 (-1) 1000000 w2 rfl (by intro z hz; simp at hz; omega) (by omega) (by omega) X.out.cur _ (by simp) _).mono ?_
    rintro e w3 ⟨y, hy0, hy1, rfl, hL⟩
    replace X := Lib.hid (X.out.turn hL)
    clear hL
    obtain ⟨z0, z1, z2, z3, z4, z5, z6, z7, z8, z9, z10, z11, fz⟩ := X.out.m.c12
    obtain ⟨y0, y1, y2, y3, y4, y5, y6, y7, y8, y9, y10, y11, fy⟩ := X.out.r.c12
    go_upto_region 17 with (fail)
    clear z0 z1 z2 z3 z4 z5 z6 z7 z8 z9 z10 z11 fz y0 y1 y2 y3 y4 y5 y6 y7 y8 y9 y10 y11 fy
    replace X : Hid (DmS w B g w1.heap.size [.int .i64 (f0), .int .i64 (f1), .int .i64 (f2), .int .i64 (f3), .string f4, .slice A5 n5 c5, .int .i64 (f6_0), .int .i64 (f6_1), .int .i64 (f7), .int .i64 (f8_0), .int .i64 (f8_1), .int .i64 y] L5 A5 n5 c5 (w3.setCell ⟨w1.heap.size, 11, none⟩ (.int .i64 y))) := Lib.hid (X.out.put 11 (.int .i64 y))
    have hs9 : w3.heap.size ≤ (w3.setCell ⟨w1.heap.size, 11, none⟩ (.int .i64 y)).heap.size := by simp
    generalize (w3.setCell ⟨w1.heap.size, 11, none⟩ (.int .i64 y)) = w4 at *
    have hlt3 := X.out.r.lt
    obtain ⟨z0, z1, z2, z3, z4, z5, z6, z7, z8, z9, z10, z11, fz⟩ := X.out.m.c12
    obtain ⟨y0, y1, y2, y3, y4, y5, y6, y7, y8, y9, y10, y11, fy⟩ := X.out.r.c12
    go_wp2_with (
      with_reducible refine bodyPost_ret (v := .agg #[.int .i64 (f0), .int .i64 (f1), .int .i64 (f2), .int .i64 (f3), .string f4, .slice A5 n5 c5, .int .i64 (f6_0), .int .i64 (f6_1), .int .i64 (f7), .int .i64 (f8_0), .int .i64 (f8_1), .int .i64 (y)]) ?hres rfl ?hpost
      case hres =>
        refine results_box rfl _ _ (w.heap.size) [.int .i64 (f0), .int .i64 (f1), .int .i64 (f2), .int .i64 (f3), .string f4, .slice A5 n5 c5, .int .i64 (f6_0), .int .i64 (f6_1), .int .i64 (f7), .int .i64 (f8_0), .int .i64 (f8_1), .int .i64 (y)] _ rfl ?_ Try.underlying30 rfl (by kernel_rfl)
        refine Zx.box ?_
        repeat (first | with_reducible exact X.out.r | with_reducible refine Zx.drewB ?_ | with_reducible apply Zx.put12)
      case hpost =>
        suffices h9 : ∀ w' : World, Touch (fun b => b = w.heap.size) w4 w' → DrewM 3 B g w (.returned (.agg #[.int .i64 (f0), .int .i64 (f1), .int .i64 (f2), .int .i64 (f3), .string f4, .slice A5 n5 c5, .int .i64 (f6_0), .int .i64 (f6_1), .int .i64 (f7), .int .i64 (f8_0), .int .i64 (f8_1), .int .i64 (y)])) w' from h9 _ (by repeat (first | with_reducible exact Touch.refl _ _ | with_reducible refine Touch.drew ?_ | with_reducible refine Touch.put12 ?_ (Eq.refl _)))
        intro w' hT9
        exact DrewM.of (f0) (f1) (f2) (f3) f4 L5 A5 n5 c5 (f6_0) (f6_1) (f7) (f8_0) (f8_1) (y) X.out.G ⟨by omega, HTY.out, by have h1 := HL4.out; omega⟩ X.out.left hg hT9)
  · go_upto_region 17 with (fail)
    obtain ⟨z0, z1, z2, z3, z4, z5, z6, z7, z8, z9, z10, z11, fz⟩ := X.out.m.c12
    obtain ⟨y0, y1, y2, y3, y4, y5, y6, y7, y8, y9, y10, y11, fy⟩ := X.out.r.c12
    go_wp2_with (
      with_reducible refine bodyPost_ret (v := .agg #[.int .i64 (f0), .int .i64 (f1), .int .i64 (f2), .int .i64 (f3), .string f4, .slice A5 n5 c5, .int .i64 (f6_0), .int .i64 (f6_1), .int .i64 (f7), .int .i64 (f8_0), .int .i64 (f8_1), .int .i64 (f8_2)]) ?hres rfl ?hpost
      case hres =>
        refine results_box rfl _ _ (w.heap.size) [.int .i64 (f0), .int .i64 (f1), .int .i64 (f2), .int .i64 (f3), .string f4, .slice A5 n5 c5, .int .i64 (f6_0), .int .i64 (f6_1), .int .i64 (f7), .int .i64 (f8_0), .int .i64 (f8_1), .int .i64 (f8_2)] _ rfl ?_ Try.underlying30 rfl (by kernel_rfl)
        refine Zx.box ?_
        repeat (first | with_reducible exact X.out.r | with_reducible refine Zx.drewB ?_ | with_reducible apply Zx.put12)
      case hpost =>
        suffices h9 : ∀ w' : World, Touch (fun b => b = w.heap.size) w2 w' → DrewM 3 B g w (.returned (.agg #[.int .i64 (f0), .int .i64 (f1), .int .i64 (f2), .int .i64 (f3), .string f4, .slice A5 n5 c5, .int .i64 (f6_0), .int .i64 (f6_1), .int .i64 (f7), .int .i64 (f8_0), .int .i64 (f8_1), .int .i64 (f8_2)])) w' from h9 _ (by repeat (first | with_reducible exact Touch.refl _ _ | with_reducible refine Touch.drew ?_ | with_reducible refine Touch.put12 ?_ (Eq.refl _)))
        intro w' hT9
        exact DrewM.of (f0) (f1) (f2) (f3) f4 L5 A5 n5 c5 (f6_0) (f6_1) (f7) (f8_0) (f8_1) (f8_2) X.out.G ⟨by omega, HTY.out, by have h1 := HL4.out; omega⟩ X.out.left hg hT9)
end Go.Proofs.Ytchofnligbgigaa
