/- Chapter 11's draws: l11Message. -/
import Derived.Test.YtchofnligbgigaaDraM
import Derived.Deep.RegionHeld3
import Derived.Deep.RegionLaw
import Derived.Deep.CutRange
import Derived.LoopTactic
import Derived.Lib.Hide
import Derived.Deep.QuietTactic
import Derived.BigQuiet
import Derived.Deep.RegionWith
import Derived.Handy
namespace Go.Proofs.Ytchofnligbgigaa
open Go.RowKit
set_option linter.unusedVariables false
set_option linter.unusedSimpArgs false
set_option maxRecDepth 100000 in
set_option maxHeartbeats 16000000 in
theorem l11Msg (B g : Nat) (w : World) (hc : Cur w B g) : Calls Try.prog 49 #[.pointer (some ⟨g, 0, none⟩)] w (DrewM 2 B g w) := by
  obtain ⟨i0, hi, hz0, hz1, hz2⟩ := info_parts infoWire
  have hg := hc.lt
  have HNE : Hid (¬ (fun b => b = g) w.heap.size) := Lib.hid (fun h => by have h1 : w.heap.size = g := h; omega)
  have Zr : Hid (Zx w.heap.size [.int .i64 0, .int .i64 0, .int .i64 0, .int .i64 0, .string ⟨#[]⟩, .slice none 0 0, .int .i64 0, .int .i64 0, .int .i64 0, .int .i64 0, .int .i64 0, .int .i64 0] (w.alloc (.cells #[.int .i64 0, .int .i64 0, .int .i64 0, .int .i64 0, .string ⟨#[]⟩, .slice none 0 0, .int .i64 0, .int .i64 0, .int .i64 0, .int .i64 0, .int .i64 0, .int .i64 0] 30))) := Lib.hid (Zx.new w #[.int .i64 0, .int .i64 0, .int .i64 0, .int .i64 0, .string ⟨#[]⟩, .slice none 0 0, .int .i64 0, .int .i64 0, .int .i64 0, .int .i64 0, .int .i64 0, .int .i64 0] 30)
  have HL : Hid (Left B g w (w.alloc (.cells #[.int .i64 0, .int .i64 0, .int .i64 0, .int .i64 0, .string ⟨#[]⟩, .slice none 0 0, .int .i64 0, .int .i64 0, .int .i64 0, .int .i64 0, .int .i64 0, .int .i64 0] 30))) := Lib.hid ⟨hc.alloc' _, (Turn.refl g w).alloc _⟩
  clear hc
  go_enter Try.func49, Try.ntmps49
  go_wp2_with fail
  refine (l1Below B g 4 _ (by omega) (by omega) HL.out.1).mono ?_
  rintro e w1 ⟨q0, hq0, hq1, rfl, hL⟩
  replace Zr := Lib.hid (Zr.out.touch (Touch.of_turn hL.2) HNE.out)
  replace HL : Hid (Left B g w w1) := Lib.hid (HL.out.trans hL)
  clear hL
  go_wp2_with fail
  refine (l1Below B g 7 _ (by omega) (by omega) HL.out.1).mono ?_
  rintro e w2 ⟨x, hx0, hx1, rfl, hL⟩
  replace Zr := Lib.hid (Zr.out.touch (Touch.of_turn hL.2) HNE.out)
  replace HL : Hid (Left B g w w2) := Lib.hid (HL.out.trans hL)
  clear hL
  have GN : ∀ w3 : World, Grow 26 2 (w.heap.size + 1) w3 none 0 0 [] (fun _ => False) := fun w3 => Grow.nil _ _ _ _
  have OKN : MsOk 2 ⟨#[]⟩ [] := ⟨by decide, (fun d h => by cases h), Nat.zero_le _⟩
  have HGN := Lib.hid GN
  have HOKN := Lib.hid OKN
  clear GN OKN
  by_cases h0 : x = 0
  · subst h0
    go_wp2_with fail
    refine (l11Wire B g _ HL.out.1).mono ?_
    rintro e w3 ⟨k, n, rfl, hkn, hL⟩
    replace Zr := Lib.hid (Zr.out.touch (Touch.of_turn hL.2) HNE.out)
    replace HL : Hid (Left B g w w3) := Lib.hid (HL.out.trans hL)
    clear hL
    obtain ⟨z0, z1, z2, z3, z4, z5, z6, z7, z8, z9, z10, z11, fz⟩ := Zr.out.c12
    go_wp2_with (
      with_reducible refine bodyPost_ret (v := .agg #[.int .i64 (2), .int .i64 (0), .int .i64 (0), .int .i64 (1 + q0), .string ⟨#[]⟩, .slice none 0 0, .int .i64 (k), .int .i64 (n), .int .i64 (0), .int .i64 (0), .int .i64 (0), .int .i64 (0)]) ?hres rfl ?hpost
      case hres =>
        refine results_box rfl _ _ (w.heap.size) [.int .i64 (2), .int .i64 (0), .int .i64 (0), .int .i64 (1 + q0), .string ⟨#[]⟩, .slice none 0 0, .int .i64 (k), .int .i64 (n), .int .i64 (0), .int .i64 (0), .int .i64 (0), .int .i64 (0)] _ rfl ?_ Try.underlying30 rfl (by kernel_rfl)
        refine Zx.box ?_
        repeat (first | with_reducible exact Zr.out | with_reducible refine Zx.drewB ?_ | with_reducible apply Zx.put12)
      case hpost =>
        suffices h9 : ∀ w' : World, Touch (fun b => b = w.heap.size) w3 w' → DrewM 2 B g w (.returned (.agg #[.int .i64 (2), .int .i64 (0), .int .i64 (0), .int .i64 (1 + q0), .string ⟨#[]⟩, .slice none 0 0, .int .i64 (k), .int .i64 (n), .int .i64 (0), .int .i64 (0), .int .i64 (0), .int .i64 (0)])) w' from h9 _ (by repeat (first | with_reducible exact Touch.refl _ _ | with_reducible refine Touch.drew ?_ | with_reducible refine Touch.put12 ?_ (Eq.refl _)))
        intro w' hT9
        exact DrewM.of (2) (0) (0) (1 + q0) ⟨#[]⟩ [] none 0 0 (k) (n) (0) (0) (0) (0) (HGN.out _) HOKN.out HL.out hg hT9)
  by_cases h1 : x = 1
  · subst h1
    go_wp2_with fail
    refine (l1Below B g 3 _ (by omega) (by omega) HL.out.1).mono ?_
    rintro e w3 ⟨y, hy0, hy1, rfl, hL⟩
    replace Zr := Lib.hid (Zr.out.touch (Touch.of_turn hL.2) HNE.out)
    replace HL : Hid (Left B g w w3) := Lib.hid (HL.out.trans hL)
    clear hL
    obtain ⟨z0, z1, z2, z3, z4, z5, z6, z7, z8, z9, z10, z11, fz⟩ := Zr.out.c12
    go_wp2_with (
      with_reducible refine bodyPost_ret (v := .agg #[.int .i64 (3 + y), .int .i64 (0), .int .i64 (0), .int .i64 (1 + q0), .string ⟨#[]⟩, .slice none 0 0, .int .i64 (0), .int .i64 (0), .int .i64 (0), .int .i64 (0), .int .i64 (0), .int .i64 (0)]) ?hres rfl ?hpost
      case hres =>
        refine results_box rfl _ _ (w.heap.size) [.int .i64 (3 + y), .int .i64 (0), .int .i64 (0), .int .i64 (1 + q0), .string ⟨#[]⟩, .slice none 0 0, .int .i64 (0), .int .i64 (0), .int .i64 (0), .int .i64 (0), .int .i64 (0), .int .i64 (0)] _ rfl ?_ Try.underlying30 rfl (by kernel_rfl)
        refine Zx.box ?_
        repeat (first | with_reducible exact Zr.out | with_reducible refine Zx.drewB ?_ | with_reducible apply Zx.put12)
      case hpost =>
        suffices h9 : ∀ w' : World, Touch (fun b => b = w.heap.size) w3 w' → DrewM 2 B g w (.returned (.agg #[.int .i64 (3 + y), .int .i64 (0), .int .i64 (0), .int .i64 (1 + q0), .string ⟨#[]⟩, .slice none 0 0, .int .i64 (0), .int .i64 (0), .int .i64 (0), .int .i64 (0), .int .i64 (0), .int .i64 (0)])) w' from h9 _ (by repeat (first | with_reducible exact Touch.refl _ _ | with_reducible refine Touch.drew ?_ | with_reducible refine Touch.put12 ?_ (Eq.refl _)))
        intro w' hT9
        exact DrewM.of (3 + y) (0) (0) (1 + q0) ⟨#[]⟩ [] none 0 0 (0) (0) (0) (0) (0) (0) (HGN.out _) HOKN.out HL.out hg hT9)
  by_cases h2 : x = 2
  · subst h2
    go_wp2_with fail
    refine (l1Below B g 3 _ (by omega) (by omega) HL.out.1).mono ?_
    rintro e w3 ⟨y, hy0, hy1, rfl, hL⟩
    replace Zr := Lib.hid (Zr.out.touch (Touch.of_turn hL.2) HNE.out)
    replace HL : Hid (Left B g w w3) := Lib.hid (HL.out.trans hL)
    clear hL
    obtain ⟨z0, z1, z2, z3, z4, z5, z6, z7, z8, z9, z10, z11, fz⟩ := Zr.out.c12
    go_wp2_with (
      with_reducible refine bodyPost_ret (v := .agg #[.int .i64 (6), .int .i64 (1 + q0), .int .i64 (0), .int .i64 (0), .string ⟨#[]⟩, .slice none 0 0, .int .i64 (0), .int .i64 (0), .int .i64 (1 + y), .int .i64 (0), .int .i64 (0), .int .i64 (0)]) ?hres rfl ?hpost
      case hres =>
        refine results_box rfl _ _ (w.heap.size) [.int .i64 (6), .int .i64 (1 + q0), .int .i64 (0), .int .i64 (0), .string ⟨#[]⟩, .slice none 0 0, .int .i64 (0), .int .i64 (0), .int .i64 (1 + y), .int .i64 (0), .int .i64 (0), .int .i64 (0)] _ rfl ?_ Try.underlying30 rfl (by kernel_rfl)
        refine Zx.box ?_
        repeat (first | with_reducible exact Zr.out | with_reducible refine Zx.drewB ?_ | with_reducible apply Zx.put12)
      case hpost =>
        suffices h9 : ∀ w' : World, Touch (fun b => b = w.heap.size) w3 w' → DrewM 2 B g w (.returned (.agg #[.int .i64 (6), .int .i64 (1 + q0), .int .i64 (0), .int .i64 (0), .string ⟨#[]⟩, .slice none 0 0, .int .i64 (0), .int .i64 (0), .int .i64 (1 + y), .int .i64 (0), .int .i64 (0), .int .i64 (0)])) w' from h9 _ (by repeat (first | with_reducible exact Touch.refl _ _ | with_reducible refine Touch.drew ?_ | with_reducible refine Touch.put12 ?_ (Eq.refl _)))
        intro w' hT9
        exact DrewM.of (6) (1 + q0) (0) (0) ⟨#[]⟩ [] none 0 0 (0) (0) (1 + y) (0) (0) (0) (HGN.out _) HOKN.out HL.out hg hT9)
  · go_wp2_with fail
    refine (l5Name9 B g _ HL.out.1).mono ?_
    rintro e w3 ⟨s, hs8, rfl, hL⟩
    replace Zr := Lib.hid (Zr.out.touch (Touch.of_turn hL.2) HNE.out)
    replace HL : Hid (Left B g w w3) := Lib.hid (HL.out.trans hL)
    clear hL
    go_wp2_with fail
    refine (l1Below B g 3 _ (by omega) (by omega) HL.out.1).mono ?_
    rintro e w4 ⟨t0, ht00, ht01, rfl, hL⟩
    replace Zr := Lib.hid (Zr.out.touch (Touch.of_turn hL.2) HNE.out)
    replace HL : Hid (Left B g w w4) := Lib.hid (HL.out.trans hL)
    clear hL
    go_wp2_with fail
    refine (l1Below B g 4 _ (by omega) (by omega) HL.out.1).mono ?_
    rintro e w5 ⟨t1, ht10, ht11, rfl, hL⟩
    replace Zr := Lib.hid (Zr.out.touch (Touch.of_turn hL.2) HNE.out)
    replace HL : Hid (Left B g w w5) := Lib.hid (HL.out.trans hL)
    clear hL
    go_wp2_with fail
    refine (l1Below B g 9 _ (by omega) (by omega) HL.out.1).mono ?_
    rintro e w6 ⟨t2, ht20, ht21, rfl, hL⟩
    replace Zr := Lib.hid (Zr.out.touch (Touch.of_turn hL.2) HNE.out)
    replace HL : Hid (Left B g w w6) := Lib.hid (HL.out.trans hL)
    clear hL
    have hlt6 := Zr.out.lt
    have hb : Below w6.heap.size w6 (w6.alloc (.cells #[.int .i64 (1), .int .i64 (0), .int .i64 (0), .int .i64 (1 + q0), .string s, .slice none 0 0, .int .i64 (0), .int .i64 (0), .int .i64 (0), .int .i64 (1 + t0), .int .i64 (t1), .int .i64 (1 + t2)] 30)) := (Below.refl _ _).alloc (Nat.le_refl _) _
    have X : Hid (DmS w B g w6.heap.size [.int .i64 (1), .int .i64 (0), .int .i64 (0), .int .i64 (1 + q0), .string s, .slice none 0 0, .int .i64 (0), .int .i64 (0), .int .i64 (0), .int .i64 (1 + t0), .int .i64 (t1), .int .i64 (1 + t2)] [] none 0 0 (w6.alloc (.cells #[.int .i64 (1), .int .i64 (0), .int .i64 (0), .int .i64 (1 + q0), .string s, .slice none 0 0, .int .i64 (0), .int .i64 (0), .int .i64 (0), .int .i64 (1 + t0), .int .i64 (t1), .int .i64 (1 + t2)] 30))) := Lib.hid ⟨HL.out.low hb HL.out.2.size (by omega), Zr.out.below hb, Zx.new w6 #[.int .i64 (1), .int .i64 (0), .int .i64 (0), .int .i64 (1 + q0), .string s, .slice none 0 0, .int .i64 (0), .int .i64 (0), .int .i64 (0), .int .i64 (1 + t0), .int .i64 (t1), .int .i64 (1 + t2)] 30, HGN.out _, (fun a e => by cases e), ⟨hlt6, hg⟩⟩
    clear hb Zr HL HGN HOKN
    go_wp2_with fail
    refine (l1Once B g 3 _ (by omega) (by omega) X.out.cur).mono ?_
    rintro e w7 ⟨on, rfl, hL⟩
    replace X := Lib.hid (X.out.turn hL)
    clear hL
    cases on with
    | true =>
      obtain ⟨z0, z1, z2, z3, z4, z5, z6, z7, z8, z9, z10, z11, fz⟩ := X.out.m.c12
      go_wp2_with fail
      refine (l1Below B g 4 _ (by omega) (by omega) X.out.cur).mono ?_
      rintro e w8 ⟨y, hy0, hy1, rfl, hL⟩
      clear z0 z1 z2 z3 z4 z5 z6 z7 z8 z9 z10 z11 fz
      replace X := Lib.hid (X.out.turn hL)
      clear hL
      obtain ⟨z0, z1, z2, z3, z4, z5, z6, z7, z8, z9, z10, z11, fz⟩ := X.out.m.c12
      go_upto_region 13 with (fail)
      clear z0 z1 z2 z3 z4 z5 z6 z7 z8 z9 z10 z11 fz
      replace X : Hid (DmS w B g w6.heap.size [.int .i64 (1), .int .i64 (0), .int .i64 (1 + y), .int .i64 (1 + q0), .string s, .slice none 0 0, .int .i64 (0), .int .i64 (0), .int .i64 (0), .int .i64 (1 + t0), .int .i64 (t1), .int .i64 (1 + t2)] [] none 0 0 (w8.setCell ⟨w6.heap.size, 2, none⟩ (.int .i64 (1 + y)))) := Lib.hid (X.out.put 2 (.int .i64 (1 + y)))
      generalize w8.setCell ⟨w6.heap.size, 2, none⟩ (.int .i64 (1 + y)) = w9 at *
      go_wp2_with fail
      refine (l1Below B g 3 _ (by omega) (by omega) X.out.cur).mono ?_
      rintro e w10 ⟨x3, hx30, hx31, rfl, hL⟩
      replace X := Lib.hid (X.out.turn hL)
      clear hL
      go_wp2_with fail
      go_loopw [5] (fun iv wr => ∃ (x : Int) (L5 : List Dat) (A5 : Option Addr) (n5 c5 : Nat), iv = .int .i64 x ∧ 0 ≤ x ∧ x ≤ 2 ∧ (n5 : Int) + x ≤ 2 ∧ L5.length = n5 ∧ (∀ d ∈ L5, Has tyWire d) ∧ DmS w B g w6.heap.size [.int .i64 (1), .int .i64 (0), .int .i64 (1 + y), .int .i64 (1 + q0), .string s, .slice A5 n5 c5, .int .i64 (0), .int .i64 (0), .int .i64 (0), .int .i64 (1 + t0), .int .i64 (t1), .int .i64 (1 + t2)] L5 A5 n5 c5 wr) (fun iv _ => (intOf iv).toNat)
      case atStart => exact ⟨x3, [], none, 0, 0, rfl, hx30, by omega, by omega, rfl, (fun d h => by cases h), X.out⟩
      case round =>
        obtain ⟨x4, L5, A5, n5, c5, rfl, hx40, hx41, hnx, hll, hty, hX⟩ := hrel
        clear X
        have X := Lib.hid hX
        have HTY := Lib.hid hty
        have HLL := Lib.hid hll
        clear hX hty hll
        by_cases hpos : 0 < x4
        · have XD := Lib.hid X.out.drew
          obtain ⟨z0, z1, z2, z3, z4, z5, z6, z7, z8, z9, z10, z11, fz⟩ := X.out.m.c12
          go_wp2_with fail
          go_region_law (first
            | (go_simp; go_at_call 75; (with_reducible refine (l11Wire B g _ XD.out.cur).mono ?_); rintro e u2 ⟨k1, n1, rfl, hkn, hL2⟩; have X2 := Lib.hid (XD.out.turn hL2); have HKN := Lib.hid hkn; obtain ⟨y0, y1, y2, y3, y4, y5, y6, y7, y8, y9, y10, y11, fy⟩ := X2.out.m.c12; have zl5 : ∀ o, (u2.alloc o).cell? ⟨w6.heap.size, 5, none⟩ = some (.slice A5 n5 c5) := (fun o => ((X2.out.m.below ((Below.refl _ _).alloc (Nat.le_refl _) o)).c12).2.2.2.2.2.1); have GA : Hid (Grow 26 2 (w.heap.size + 1) (u2.alloc (.cells #[.int .i64 k1, .int .i64 n1] 26)) A5 n5 c5 L5 (fun _ => False)) := Lib.hid (X2.out.G.below ((Below.refl _ _).alloc (Nat.le_refl _) _)); have SL : Hid (Src 2 (u2.alloc (.cells #[.int .i64 k1, .int .i64 n1] 26)) (some ⟨u2.heap.size, 0, none⟩) 1 [.r [.i k1, .i n1]] (fun _ => False)) := Lib.hid (Src.lit (w := u2) (C := #[.int .i64 k1, .int .i64 n1]) (E := 26) rfl (ownWire (Iv := fun _ => False)) rfl (fun b h => h.elim)); have HLQ : Hid (w.heap.size + 1 ≤ (u2.alloc (.cells #[.int .i64 k1, .int .i64 n1] 26)).heap.size) := Lib.hid (by have h1 := X2.out.r.lt; simp; omega); clear hL2 hkn)
            | (refine step_append_dat _ rfl _ _ 24 rfl 2 (by omega) 26 i0 _ 16 Try.underlying24 hi hz0 hz1 rfl hz2 (w.heap.size + 1) A5 n5 c5 L5 (fun _ => False) rfl GA.out (some ⟨u2.heap.size, 0, none⟩) 1 1 [.r [.i k1, .i n1]] (fun _ => False) rfl SL.out (fun b h => h.elim) (fun a e h => h) (by unfold maxLen; omega) (by omega) HLQ.out ?_; intro A8 c8 wa hG8 hT8 hA8; have X8 := Lib.hid (X2.out.grown ((Below.refl _ _).alloc (Nat.le_refl _) (.cells #[.int .i64 k1, .int .i64 n1] 26)) hG8.copied9 hT8 hA8); obtain ⟨v0, v1, v2, v3, v4, v5, v6, v7, v8, v9, v10, v11, fv⟩ := X8.out.m.c12; clear hG8 hT8 hA8 GA SL HLQ))
          all_goals (
            have X9 := Lib.hid (X8.out.put 5 (.slice A8 (n5 + 1) c8))
            go_wp2_with fail
            go_roundw
            case rel => exact ⟨x4 - 1, L5 ++ [Dat.r [.i k1, .i n1]], A8, n5 + 1, c8, by go_num, by omega, by omega, by omega, by rw [List.length_append, HLL.out]; rfl, MsOk.snoc HTY.out HKN.out, X9.out⟩
            case measure => simp [intOf]; omega)
        · have hlt := X.out.r.lt
          obtain ⟨z0, z1, z2, z3, z4, z5, z6, z7, z8, z9, z10, z11, fz⟩ := X.out.m.c12
          obtain ⟨y0, y1, y2, y3, y4, y5, y6, y7, y8, y9, y10, y11, fy⟩ := X.out.r.c12
          go_wp2_with (
            with_reducible refine bodyPost_ret (v := .agg #[.int .i64 (1), .int .i64 (0), .int .i64 (1 + y), .int .i64 (1 + q0), .string s, .slice A5 n5 c5, .int .i64 (0), .int .i64 (0), .int .i64 (0), .int .i64 (1 + t0), .int .i64 (t1), .int .i64 (1 + t2)]) ?hres rfl ?hpost
            case hres =>
              refine results_box rfl _ _ (w.heap.size) [.int .i64 (1), .int .i64 (0), .int .i64 (1 + y), .int .i64 (1 + q0), .string s, .slice A5 n5 c5, .int .i64 (0), .int .i64 (0), .int .i64 (0), .int .i64 (1 + t0), .int .i64 (t1), .int .i64 (1 + t2)] _ rfl ?_ Try.underlying30 rfl (by kernel_rfl)
              refine Zx.box ?_
              repeat (first | with_reducible exact X.out.r | with_reducible refine Zx.drewB ?_ | with_reducible apply Zx.put12)
            case hpost =>
              suffices h9 : ∀ w' : World, Touch (fun b => b = w.heap.size) wr w' → DrewM 2 B g w (.returned (.agg #[.int .i64 (1), .int .i64 (0), .int .i64 (1 + y), .int .i64 (1 + q0), .string s, .slice A5 n5 c5, .int .i64 (0), .int .i64 (0), .int .i64 (0), .int .i64 (1 + t0), .int .i64 (t1), .int .i64 (1 + t2)])) w' from h9 _ (by repeat (first | with_reducible exact Touch.refl _ _ | with_reducible refine Touch.drew ?_ | with_reducible refine Touch.put12 ?_ (Eq.refl _)))
              intro w' hT9
              exact DrewM.of (1) (0) (1 + y) (1 + q0) s L5 A5 n5 c5 (0) (0) (0) (1 + t0) (t1) (1 + t2) X.out.G ⟨by omega, HTY.out, by have h1 := HLL.out; omega⟩ X.out.left hg hT9)
    | false =>
      obtain ⟨z0, z1, z2, z3, z4, z5, z6, z7, z8, z9, z10, z11, fz⟩ := X.out.m.c12
      go_wp2_with fail
      refine (l1Below B g 4 _ (by omega) (by omega) X.out.cur).mono ?_
      rintro e w8 ⟨y, hy0, hy1, rfl, hL⟩
      clear z0 z1 z2 z3 z4 z5 z6 z7 z8 z9 z10 z11 fz
      replace X := Lib.hid (X.out.turn hL)
      clear hL
      obtain ⟨z0, z1, z2, z3, z4, z5, z6, z7, z8, z9, z10, z11, fz⟩ := X.out.m.c12
      go_upto_region 13 with (fail)
      clear z0 z1 z2 z3 z4 z5 z6 z7 z8 z9 z10 z11 fz
      replace X : Hid (DmS w B g w6.heap.size [.int .i64 (1), .int .i64 (1 + y), .int .i64 (0), .int .i64 (1 + q0), .string s, .slice none 0 0, .int .i64 (0), .int .i64 (0), .int .i64 (0), .int .i64 (1 + t0), .int .i64 (t1), .int .i64 (1 + t2)] [] none 0 0 (w8.setCell ⟨w6.heap.size, 1, none⟩ (.int .i64 (1 + y)))) := Lib.hid (X.out.put 1 (.int .i64 (1 + y)))
      generalize w8.setCell ⟨w6.heap.size, 1, none⟩ (.int .i64 (1 + y)) = w9 at *
      go_wp2_with fail
      refine (l1Below B g 3 _ (by omega) (by omega) X.out.cur).mono ?_
      rintro e w10 ⟨x3, hx30, hx31, rfl, hL⟩
      replace X := Lib.hid (X.out.turn hL)
      clear hL
      go_wp2_with fail
      go_loopw [5] (fun iv wr => ∃ (x : Int) (L5 : List Dat) (A5 : Option Addr) (n5 c5 : Nat), iv = .int .i64 x ∧ 0 ≤ x ∧ x ≤ 2 ∧ (n5 : Int) + x ≤ 2 ∧ L5.length = n5 ∧ (∀ d ∈ L5, Has tyWire d) ∧ DmS w B g w6.heap.size [.int .i64 (1), .int .i64 (1 + y), .int .i64 (0), .int .i64 (1 + q0), .string s, .slice A5 n5 c5, .int .i64 (0), .int .i64 (0), .int .i64 (0), .int .i64 (1 + t0), .int .i64 (t1), .int .i64 (1 + t2)] L5 A5 n5 c5 wr) (fun iv _ => (intOf iv).toNat)
      case atStart => exact ⟨x3, [], none, 0, 0, rfl, hx30, by omega, by omega, rfl, (fun d h => by cases h), X.out⟩
      case round =>
        obtain ⟨x4, L5, A5, n5, c5, rfl, hx40, hx41, hnx, hll, hty, hX⟩ := hrel
        clear X
        have X := Lib.hid hX
        have HTY := Lib.hid hty
        have HLL := Lib.hid hll
        clear hX hty hll
        by_cases hpos : 0 < x4
        · have XD := Lib.hid X.out.drew
          obtain ⟨z0, z1, z2, z3, z4, z5, z6, z7, z8, z9, z10, z11, fz⟩ := X.out.m.c12
          go_wp2_with fail
          go_region_law (first
            | (go_simp; go_at_call 75; (with_reducible refine (l11Wire B g _ XD.out.cur).mono ?_); rintro e u2 ⟨k1, n1, rfl, hkn, hL2⟩; have X2 := Lib.hid (XD.out.turn hL2); have HKN := Lib.hid hkn; obtain ⟨y0, y1, y2, y3, y4, y5, y6, y7, y8, y9, y10, y11, fy⟩ := X2.out.m.c12; have zl5 : ∀ o, (u2.alloc o).cell? ⟨w6.heap.size, 5, none⟩ = some (.slice A5 n5 c5) := (fun o => ((X2.out.m.below ((Below.refl _ _).alloc (Nat.le_refl _) o)).c12).2.2.2.2.2.1); have GA : Hid (Grow 26 2 (w.heap.size + 1) (u2.alloc (.cells #[.int .i64 k1, .int .i64 n1] 26)) A5 n5 c5 L5 (fun _ => False)) := Lib.hid (X2.out.G.below ((Below.refl _ _).alloc (Nat.le_refl _) _)); have SL : Hid (Src 2 (u2.alloc (.cells #[.int .i64 k1, .int .i64 n1] 26)) (some ⟨u2.heap.size, 0, none⟩) 1 [.r [.i k1, .i n1]] (fun _ => False)) := Lib.hid (Src.lit (w := u2) (C := #[.int .i64 k1, .int .i64 n1]) (E := 26) rfl (ownWire (Iv := fun _ => False)) rfl (fun b h => h.elim)); have HLQ : Hid (w.heap.size + 1 ≤ (u2.alloc (.cells #[.int .i64 k1, .int .i64 n1] 26)).heap.size) := Lib.hid (by have h1 := X2.out.r.lt; simp; omega); clear hL2 hkn)
            | (refine step_append_dat _ rfl _ _ 24 rfl 2 (by omega) 26 i0 _ 16 Try.underlying24 hi hz0 hz1 rfl hz2 (w.heap.size + 1) A5 n5 c5 L5 (fun _ => False) rfl GA.out (some ⟨u2.heap.size, 0, none⟩) 1 1 [.r [.i k1, .i n1]] (fun _ => False) rfl SL.out (fun b h => h.elim) (fun a e h => h) (by unfold maxLen; omega) (by omega) HLQ.out ?_; intro A8 c8 wa hG8 hT8 hA8; have X8 := Lib.hid (X2.out.grown ((Below.refl _ _).alloc (Nat.le_refl _) (.cells #[.int .i64 k1, .int .i64 n1] 26)) hG8.copied9 hT8 hA8); obtain ⟨v0, v1, v2, v3, v4, v5, v6, v7, v8, v9, v10, v11, fv⟩ := X8.out.m.c12; clear hG8 hT8 hA8 GA SL HLQ))
          all_goals (
            have X9 := Lib.hid (X8.out.put 5 (.slice A8 (n5 + 1) c8))
            go_wp2_with fail
            go_roundw
            case rel => exact ⟨x4 - 1, L5 ++ [Dat.r [.i k1, .i n1]], A8, n5 + 1, c8, by go_num, by omega, by omega, by omega, by rw [List.length_append, HLL.out]; rfl, MsOk.snoc HTY.out HKN.out, X9.out⟩
            case measure => simp [intOf]; omega)
        · have hlt := X.out.r.lt
          obtain ⟨z0, z1, z2, z3, z4, z5, z6, z7, z8, z9, z10, z11, fz⟩ := X.out.m.c12
          obtain ⟨y0, y1, y2, y3, y4, y5, y6, y7, y8, y9, y10, y11, fy⟩ := X.out.r.c12
          go_wp2_with (
            with_reducible refine bodyPost_ret (v := .agg #[.int .i64 (1), .int .i64 (1 + y), .int .i64 (0), .int .i64 (1 + q0), .string s, .slice A5 n5 c5, .int .i64 (0), .int .i64 (0), .int .i64 (0), .int .i64 (1 + t0), .int .i64 (t1), .int .i64 (1 + t2)]) ?hres rfl ?hpost
            case hres =>
              refine results_box rfl _ _ (w.heap.size) [.int .i64 (1), .int .i64 (1 + y), .int .i64 (0), .int .i64 (1 + q0), .string s, .slice A5 n5 c5, .int .i64 (0), .int .i64 (0), .int .i64 (0), .int .i64 (1 + t0), .int .i64 (t1), .int .i64 (1 + t2)] _ rfl ?_ Try.underlying30 rfl (by kernel_rfl)
              refine Zx.box ?_
              repeat (first | with_reducible exact X.out.r | with_reducible refine Zx.drewB ?_ | with_reducible apply Zx.put12)
            case hpost =>
              suffices h9 : ∀ w' : World, Touch (fun b => b = w.heap.size) wr w' → DrewM 2 B g w (.returned (.agg #[.int .i64 (1), .int .i64 (1 + y), .int .i64 (0), .int .i64 (1 + q0), .string s, .slice A5 n5 c5, .int .i64 (0), .int .i64 (0), .int .i64 (0), .int .i64 (1 + t0), .int .i64 (t1), .int .i64 (1 + t2)])) w' from h9 _ (by repeat (first | with_reducible exact Touch.refl _ _ | with_reducible refine Touch.drew ?_ | with_reducible refine Touch.put12 ?_ (Eq.refl _)))
              intro w' hT9
              exact DrewM.of (1) (1 + y) (0) (1 + q0) s L5 A5 n5 c5 (0) (0) (0) (1 + t0) (t1) (1 + t2) X.out.G ⟨by omega, HTY.out, by have h1 := HLL.out; omega⟩ X.out.left hg hT9)
end Go.Proofs.Ytchofnligbgigaa
