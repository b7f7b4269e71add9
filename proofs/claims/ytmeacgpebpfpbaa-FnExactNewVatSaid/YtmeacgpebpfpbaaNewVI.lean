/- Chapter 12: NewVat, the program's. -/
import Derived.Test.YtmeacgpebpfpbaaMzRoot
import Derived.Test.YtmeacgpebpfpbaaMzMods
import Derived.Test.YtmeacgpebpfpbaaHeldZ
import Derived.Test.YtmeacgpebpfpbaaMzLokV
import Derived.Deep.RegionHeld3
import Derived.Deep.RegionLaw
import Derived.Deep.Cut
import Derived.LoopTactic
import Derived.Lib.Hide
import Derived.Deep.QuietTactic
import Derived.BigQuiet
import Derived.Deep.RegionWith
import Derived.Handy
namespace Go.Proofs.Ytmeacgpebpfpbaa
open Go.RowKit
set_option linter.unusedVariables false
set_option linter.unusedSimpArgs false
set_option maxRecDepth 100000 in
set_option maxHeartbeats 16000000 in
theorem implNewVat (x : Int) (zs : List Int) (A : Option Addr) (n c : Nat) (s : Int) (w : World) (hr : Rz .i64 w A n zs) (hn : n ≤ 1073741824) : Calls Try.prog 17 #[.int .i64 x, .slice A n c, .int .i64 s] w (GivesVt x (objD s :: zs.map proxD) (n + 1) [] 0 (zs.map rootD) n [] 0 w) := by
  obtain ⟨i1, hj1, hx1, hy1, hz1⟩ := info_parts infoEntity
  obtain ⟨i3, hj3, hx3, hy3, hz3⟩ := info_parts infoLink
  have HR := Lib.hid hr
  clear hr
  have X : Hid (HeldZ w [(w.heap.size, [.int .i64 0, .slice none 0 0, .slice none 0 0, .slice none 0 0, .slice none 0 0])] (w.alloc (.cells #[.int .i64 0, .slice none 0 0, .slice none 0 0, .slice none 0 0, .slice none 0 0] 29))) := Lib.hid ((HeldZ.start w).new #[.int .i64 0, .slice none 0 0, .slice none 0 0, .slice none 0 0, .slice none 0 0] 29)
  go_enter Try.func17, Try.ntmps17
  go_wp2_with fail
  refine (implNewObj s [] none 0 0 _ (Lies.none_ _) (fun x h => by cases h) (by omega)).mono ?_
  rintro e w1 ⟨A8, c8, rfl, hO, hb⟩
  have hs1 := hb.size
  simp only [World.size_alloc] at hs1 hO
  replace X := Lib.hid (X.out.below hb)
  clear hb
  have HOB := Lib.hid (ownObj (s := s) hO hs1)
  clear hO
  have VX0 := Lib.hid (VatX.one (C := #[.int .i64 1, .int .i64 s, .slice A8 0 c8, .int .i64 0, .int .i64 0, .int .i64 0, .slice none 0 0, .slice none 0 0, .int .i64 0, .int .i64 0, .int .i64 0, .int .i64 0]) (lo := w.heap.size + 1) rfl HOB.out rfl (fun b hb => ⟨hb.1, hb.2⟩) hs1)
  have VX : Hid (VatX (fun b => w.heap.size + 1 ≤ b ∧ b ≠ w1.heap.size + 1) ((w1.alloc (.cells #[.int .i64 1, .int .i64 s, .slice A8 0 c8, .int .i64 0, .int .i64 0, .int .i64 0, .slice none 0 0, .slice none 0 0, .int .i64 0, .int .i64 0, .int .i64 0, .int .i64 0] 38)).alloc (.cells #[.int .i64 x, .slice (some ⟨w1.heap.size, 0, none⟩) 1 1, .slice none 0 0, .slice none 0 0, .slice none 0 0] 29)) ([objD s]) (some ⟨w1.heap.size, 0, none⟩) 1 1 [] none 0 0 ([]) none 0 0 [] none 0 0) := Lib.hid ((VX0.out.below ((Below.refl _ _).alloc (Nat.le_refl _) (.cells #[.int .i64 x, .slice (some ⟨w1.heap.size, 0, none⟩) 1 1, .slice none 0 0, .slice none 0 0, .slice none 0 0] 29))).mono (fun b hb => ⟨hb.1, by have h1 := hb.2; omega⟩))
  replace X : Hid (HeldZ w [(w1.heap.size + 1, [.int .i64 x, .slice (some ⟨w1.heap.size, 0, none⟩) 1 1, .slice none 0 0, .slice none 0 0, .slice none 0 0]), (w.heap.size, [.int .i64 0, .slice none 0 0, .slice none 0 0, .slice none 0 0, .slice none 0 0])] ((w1.alloc (.cells #[.int .i64 1, .int .i64 s, .slice A8 0 c8, .int .i64 0, .int .i64 0, .int .i64 0, .slice none 0 0, .slice none 0 0, .int .i64 0, .int .i64 0, .int .i64 0, .int .i64 0] 38)).alloc (.cells #[.int .i64 x, .slice (some ⟨w1.heap.size, 0, none⟩) 1 1, .slice none 0 0, .slice none 0 0, .slice none 0 0] 29))) := Lib.hid (by have h1 := (X.out.below ((Below.refl _ _).alloc (Nat.le_refl _) (.cells #[.int .i64 1, .int .i64 s, .slice A8 0 c8, .int .i64 0, .int .i64 0, .int .i64 0, .slice none 0 0, .slice none 0 0, .int .i64 0, .int .i64 0, .int .i64 0, .int .i64 0] 38))).new #[.int .i64 x, .slice (some ⟨w1.heap.size, 0, none⟩) 1 1, .slice none 0 0, .slice none 0 0, .slice none 0 0] 29; (try simp only [World.size_alloc] at h1); exact h1)
  clear VX0 HOB
  go_upto_region 2 with (fail)
  have hs2 : w1.heap.size + 1 + 1 ≤ ((w1.alloc (.cells #[.int .i64 1, .int .i64 s, .slice A8 0 c8, .int .i64 0, .int .i64 0, .int .i64 0, .slice none 0 0, .slice none 0 0, .int .i64 0, .int .i64 0, .int .i64 0, .int .i64 0] 38)).alloc (.cells #[.int .i64 x, .slice (some ⟨w1.heap.size, 0, none⟩) 1 1, .slice none 0 0, .slice none 0 0, .slice none 0 0] 29)).heap.size := by simp
  generalize ((w1.alloc (.cells #[.int .i64 1, .int .i64 s, .slice A8 0 c8, .int .i64 0, .int .i64 0, .int .i64 0, .slice none 0 0, .slice none 0 0, .int .i64 0, .int .i64 0, .int .i64 0, .int .i64 0] 38)).alloc (.cells #[.int .i64 x, .slice (some ⟨w1.heap.size, 0, none⟩) 1 1, .slice none 0 0, .slice none 0 0, .slice none 0 0] 29)) = w2 at *
  have hg7 : w.heap.size + 1 ≤ w1.heap.size + 1 := by omega
  generalize hg7e : w1.heap.size + 1 = g7 at *
  go_wp2_with fail
  go_loopw [17] (fun iv wr => ∃ (i : Nat) (A1 : Option Addr) (c1 : Nat) (A3 : Option Addr) (c3 : Nat), i ≤ n ∧ iv = .int .i64 i ∧ HeldZ w [(g7, [.int .i64 x, .slice A1 (i + 1) c1, .slice none 0 0, .slice A3 i c3, .slice none 0 0]), (w.heap.size, [.int .i64 0, .slice none 0 0, .slice none 0 0, .slice none 0 0, .slice none 0 0])] wr ∧ VatX (fun b => w.heap.size + 1 ≤ b ∧ b ≠ g7) wr (objD s :: (zs.take i).map proxD) A1 (i + 1) c1 [] none 0 0 ((zs.take i).map rootD) A3 i c3 [] none 0 0) (fun iv _ => n - (intOf iv).toNat)
  case atStart => exact ⟨0, _, 1, none, 0, Nat.zero_le _, rfl, X.out, VX.out⟩
  case round =>
    clear X VX hs2
    obtain ⟨i, A1, c1, A3, c3, hin, rfl, hX, hV⟩ := hrel
    have X := Lib.hid hX
    have VX := Lib.hid hV
    clear hX hV
    have hg := (X.out.zx (g := g7) (cs := [.int .i64 x, .slice A1 (i + 1) c1, .slice none 0 0, .slice A3 i c3, .slice none 0 0]) (by repeat (first | exact List.mem_cons_self | refine List.mem_cons_of_mem _ ?_))).lt
    by_cases hlt : i < n
    · obtain ⟨b, off, z, rfl, hbw, hz, hcell⟩ := (HR.out.below X.out.1).at_ hlt
      have HZ := Lib.hid hz
      clear hz
      obtain ⟨z0_0, z0_1, z0_2, z0_3, z0_4, z0f⟩ := (X.out.zx (g := g7) (cs := [.int .i64 x, .slice A1 (i + 1) c1, .slice none 0 0, .slice A3 i c3, .slice none 0 0]) (by repeat (first | exact List.mem_cons_self | refine List.mem_cons_of_mem _ ?_))).d5
      obtain ⟨z1_0, z1_1, z1_2, z1_3, z1_4, z1f⟩ := (X.out.zx (g := w.heap.size) (cs := [.int .i64 0, .slice none 0 0, .slice none 0 0, .slice none 0 0, .slice none 0 0]) (by repeat (first | exact List.mem_cons_self | refine List.mem_cons_of_mem _ ?_))).d5
      go_wp2_with fail
      have XD := Lib.hid (X.out.below (Below.refl _ _).drew)
      have VXD := Lib.hid (VX.out.below (Below.refl _ _).drew)
      clear z0_0 z0_1 z0_2 z0_3 z0_4 z0f
      clear z1_0 z1_1 z1_2 z1_3 z1_4 z1f
      obtain ⟨y0_0, y0_1, y0_2, y0_3, y0_4, y0f⟩ := (XD.out.zx (g := g7) (cs := [.int .i64 x, .slice A1 (i + 1) c1, .slice none 0 0, .slice A3 i c3, .slice none 0 0]) (by repeat (first | exact List.mem_cons_self | refine List.mem_cons_of_mem _ ?_))).d5
      obtain ⟨y1_0, y1_1, y1_2, y1_3, y1_4, y1f⟩ := (XD.out.zx (g := w.heap.size) (cs := [.int .i64 0, .slice none 0 0, .slice none 0 0, .slice none 0 0, .slice none 0 0]) (by repeat (first | exact List.mem_cons_self | refine List.mem_cons_of_mem _ ?_))).d5
      refine wp_region_held_drew (S := (fun _ => True)) (by kernel_rfl) ?_ (fun hH0 => ?_)
      · exact trivial
      refine wpAnyH_take (i := 0) (oi := { dst := some 21, op := Op.fieldAddr 29 (Operand.tmp 7) 3, type := 0, pos := "l12_vat.go:32", after := #[], guard := none }) (v := ?_) rfl (by kernel_rfl) (by kernel_rfl) (by kernel_rfl) (fun _ _ _ h => h) (Or.inl ⟨by rfl, ?_⟩) hH0 ?_
      rotate_left
      · intro w hSw; (try dsimp only at hSw); go_simp; (try with_reducible rfl)
      simp only [Act.put, List.setIfInBounds_toArray, List.set_cons_zero, List.set_cons_succ]
      refine wpAnyH_take (i := 2) (oi := { dst := some 23, op := Op.move (Operand.tmp 9), type := 3, pos := "l12_vat.go:32", after := #[], guard := none }) (v := ?_) rfl (by kernel_rfl) (by kernel_rfl) (by kernel_rfl) (fun _ _ _ h => h) (Or.inl ⟨by rfl, ?_⟩) hH0 ?_
      rotate_left
      · intro w hSw; (try dsimp only at hSw); go_simp; (try with_reducible rfl)
      simp only [Act.put, List.setIfInBounds_toArray, List.set_cons_zero, List.set_cons_succ]
      refine wpAnyH_ready (rs := [1, 3]) (by kernel_rfl) (by simp) ?_
      refine AllReadyH.cons (o := { dst := some 22, op := Op.load 26 (Operand.tmp 21), type := 26, pos := "l12_vat.go:32", after := #[{ on := 0, ground := Ground.data }], guard := none }) rfl (fun K hK => ?_) ?_
      · go_simp
        refine hK.out _ _ ?_ (fun hH1 => ?_)
        · exact trivial
        clear hK K hH0
        (try simp only [Act.put, List.setIfInBounds_toArray, List.set_cons_zero, List.set_cons_succ])
        refine wpAnyH_ready (rs := [3]) (by kernel_rfl) (by simp) ?_
        refine AllReadyH.cons (o := { dst := some 24, op := Op.call { callee := Callee.value (Operand.func 57), args := #[Operand.tmp 23], argTypes := #[3] }, type := 97, pos := "l12_vat.go:32", after := #[{ on := 2, ground := Ground.data }], guard := none }) rfl (fun K hK => ?_) ?_
        · (go_simp; go_at_call 57; (with_reducible refine (implRoot z _).mono ?_); rintro e w8 ⟨B2, k2, B4, k4, B6, k6, rfl, hO, hb⟩; (have hs8 := hb.size); (try simp only [World.size_drew] at hs8); (have HO := Lib.hid (show Owns w8 (rootD z) [.int .i64 z, .bool true, .slice B2 1 k2, .int .i64 1, .slice B4 0 k4, .int .i64 0, .slice B6 0 k6] (rng wr.drew.heap.size w8.heap.size) from hO)); (have X8 := Lib.hid (XD.out.below hb)); (have XL := Lib.hid (X8.out.below ((Below.refl _ _).alloc (Nat.le_refl _) (.cells #[.int .i64 z, .bool true, .slice B2 1 k2, .int .i64 1, .slice B4 0 k4, .int .i64 0, .slice B6 0 k6] 97)))); (obtain ⟨Bg, hg, hgB, hgA, hbk⟩ := VXD.out.app3 (hb.alloc hb.size (.cells #[.int .i64 z, .bool true, .slice B2 1 k2, .int .i64 1, .slice B4 0 k4, .int .i64 0, .slice B6 0 k6] 97))); (have HG := Lib.hid hg); (have HGB := Lib.hid hgB); (have HGA := Lib.hid hgA); (have HBK := Lib.hid hbk); (have a1 := (X8.out.zx (g := g7) (cs := [.int .i64 x, .slice A1 (i + 1) c1, .slice none 0 0, .slice A3 i c3, .slice none 0 0]) (by repeat (first | exact List.mem_cons_self | refine List.mem_cons_of_mem _ ?_))).d5.2.2.2.1); (have F8 := fun o9 => ((X8.out.zx (g := g7) (cs := [.int .i64 x, .slice A1 (i + 1) c1, .slice none 0 0, .slice A3 i c3, .slice none 0 0]) (by repeat (first | exact List.mem_cons_self | refine List.mem_cons_of_mem _ ?_))).below ((Below.refl _ _).alloc (Nat.le_refl _) o9)).d5.2.2.2.1); clear hb hg hgB hgA hbk hO; (try (go_wp2_with fail)))
          refine hK.out _ _ ?_ (fun hH2 => ?_)
          · exact trivial
          clear hK K hH1
          (try simp only [Act.put, List.setIfInBounds_toArray, List.set_cons_zero, List.set_cons_succ])
          refine wpAnyH_ready (rs := [4]) (by kernel_rfl) (by simp) ?_
          refine AllReadyH.cons (o := { dst := some 25, op := Op.buildSlice 26 1 #[(0, Operand.tmp 24)], type := 26, pos := "l12_vat.go:32", after := #[{ on := 3, ground := Ground.data }], guard := none }) rfl (fun K hK => ?_) ?_
          · go_simp
            refine hK.out _ _ ?_ (fun hH3 => ?_)
            · exact trivial
            clear hK K hH2
            (try simp only [Act.put, List.setIfInBounds_toArray, List.set_cons_zero, List.set_cons_succ])
            refine wpAnyH_ready (rs := [5]) (by kernel_rfl) (by simp) ?_
            refine AllReadyH.cons (o := { dst := some 26, op := Op.call { callee := Callee.builtin Builtin.append, args := #[Operand.tmp 22, Operand.tmp 25], argTypes := #[26, 26] }, type := 26, pos := "l12_vat.go:32", after := #[{ on := 1, ground := Ground.data }, { on := 4, ground := Ground.data }, { on := 3, ground := Ground.chain }], guard := none }) rfl (fun K hK => ?_) ?_
            · (refine step_append_dat _ rfl _ _ 26 rfl 7 (by omega) 97 i3 _ 104 Try.underlying26 hj3 hx3 hy3 rfl hz3 0 A3 i c3 ((zs.take i).map rootD) Bg rfl HG.out (some ⟨w8.heap.size, 0, none⟩) 1 1 [rootD z] (rng wr.drew.heap.size w8.heap.size) rfl (Src.lit rfl HO.out rfl (fun b hb => hb.2)) (fun b hb hb2 => by have h1 := (HGB.out b hb).2; have h2 := hb2.1; (try simp only [World.size_drew] at h1 h2 hs8); omega) (fun a e hb2 => by have h1 := (HGA.out a e).2; have h2 := hb2.1; (try simp only [World.size_drew] at h1 h2 hs8); omega) (by unfold maxLen; omega) (by omega) (Nat.zero_le _) ?_; intro A9 c9 w9 hG9 hT9 hA9; (have VX9 := Lib.hid (HBK.out w9 A9 _ c9 _ _ hG9 hT9 hA9 (fun b hb => by have h2 := hb.1; (try simp only [World.size_drew] at h2); (try simp only [World.size_drew]); omega))); (have X9 := Lib.hid (XL.out.touch hT9 (fun b ⟨a, e9, hb9⟩ => by have h1 := (HGA.out a e9).1.1; omega) (fun p hp ⟨a, e9, hb9⟩ => by have h1 := (HGA.out a e9).1.1; have h2 := (HGA.out a e9).1.2; simp only [List.mem_cons, List.not_mem_nil, or_false] at hp; rcases hp with rfl | rfl <;> (simp only at hb9) <;> omega))); clear hG9 hT9 hA9; (have XS := Lib.hid (X9.out.put (fun p hp => by simp only [List.mem_cons, List.not_mem_nil, or_false] at hp; rcases hp with rfl <;> (show (_ : Nat) ≠ _) <;> omega) 3 (.slice A9 (i + 1) c9))); (obtain ⟨v0, v1, v2, v3, v4, fv⟩ := (X9.out.zx (g := g7) (cs := [.int .i64 x, .slice A1 (i + 1) c1, .slice none 0 0, .slice A3 i c3, .slice none 0 0]) (by repeat (first | exact List.mem_cons_self | refine List.mem_cons_of_mem _ ?_))).d5))
              refine hK.out _ _ ?_ (fun hH4 => ?_)
              · exact trivial
              clear hK K hH3
              (try simp only [Act.put, List.setIfInBounds_toArray, List.set_cons_zero, List.set_cons_succ])
              refine wpAnyH_take (i := 6) (oi := { dst := some 27, op := Op.fieldAddr 29 (Operand.tmp 7) 3, type := 0, pos := "l12_vat.go:32", after := #[{ on := 0, ground := Ground.phase }, { on := 1, ground := Ground.phase }, { on := 2, ground := Ground.phase }, { on := 3, ground := Ground.phase }, { on := 4, ground := Ground.phase }, { on := 5, ground := Ground.phase }], guard := none }) (v := ?_) rfl (by kernel_rfl) (by kernel_rfl) (by kernel_rfl) (fun _ _ _ h => h) (Or.inl ⟨by rfl, ?_⟩) hH4 ?_
              rotate_left
              · intro w hSw; (try dsimp only at hSw); go_simp; (try with_reducible rfl)
              simp only [Act.put, List.setIfInBounds_toArray, List.set_cons_zero, List.set_cons_succ]
              refine wpAnyH_ready (rs := [7]) (by kernel_rfl) (by simp) ?_
              refine AllReadyH.cons (o := { dst := none, op := Op.store 26 (Operand.tmp 27) (Operand.tmp 26), type := 0, pos := "l12_vat.go:32", after := #[{ on := 6, ground := Ground.data }, { on := 5, ground := Ground.data }, { on := 5, ground := Ground.chain }, { on := 0, ground := Ground.phase }, { on := 1, ground := Ground.phase }, { on := 2, ground := Ground.phase }, { on := 3, ground := Ground.phase }, { on := 4, ground := Ground.phase }, { on := 5, ground := Ground.phase }], guard := none }) rfl (fun K hK => ?_) ?_
              · go_simp
                refine hK.out _ _ ?_ (fun hH5 => ?_)
                · exact trivial
                clear hK K hH4
                (try simp only [Act.put, List.setIfInBounds_toArray, List.set_cons_zero, List.set_cons_succ])
                refine wpAnyH_done (by kernel_rfl) ?_ _
                replace X : Hid (HeldZ w [(g7, [.int .i64 x, .slice A1 (i + 1) c1, .slice none 0 0, .slice A9 (i + 1) c9, .slice none 0 0]), (w.heap.size, [.int .i64 0, .slice none 0 0, .slice none 0 0, .slice none 0 0, .slice none 0 0])] (w9.setCell ⟨g7, 3, none⟩ (.slice A9 (i + 1) c9))) := XS
                replace VX := Lib.hid ((VX9.out.touch (w' := (w9.setCell ⟨g7, 3, none⟩ (.slice A9 (i + 1) c9))) ((Touch.refl (fun b => b = g7) w9).setCell (p := ⟨g7, 3, none⟩) rfl _) (fun b hb e => by rcases hb with hb | hb; exact hb.2 e; (try simp only [World.size_drew] at hb); omega)).mono (P' := (fun b => w.heap.size + 1 ≤ b ∧ b ≠ g7)) (fun b hb => by rcases hb with hb | hb; exact hb; (try simp only [World.size_drew] at hb); exact ⟨by omega, by omega⟩))
                clear XS VX9 XL X8 X9 HO HG HGB HGA HBK XD VXD
                generalize (w9.setCell ⟨g7, 3, none⟩ (.slice A9 (i + 1) c9)) = w10 at *
                have hgb := (X.out.zx (g := g7) (cs := [.int .i64 x, .slice A1 (i + 1) c1, .slice none 0 0, .slice A9 (i + 1) c9, .slice none 0 0]) (by repeat (first | exact List.mem_cons_self | refine List.mem_cons_of_mem _ ?_))).lt
                obtain ⟨z0_0, z0_1, z0_2, z0_3, z0_4, z0f⟩ := (X.out.zx (g := g7) (cs := [.int .i64 x, .slice A1 (i + 1) c1, .slice none 0 0, .slice A9 (i + 1) c9, .slice none 0 0]) (by repeat (first | exact List.mem_cons_self | refine List.mem_cons_of_mem _ ?_))).d5
                obtain ⟨z1_0, z1_1, z1_2, z1_3, z1_4, z1f⟩ := (X.out.zx (g := w.heap.size) (cs := [.int .i64 0, .slice none 0 0, .slice none 0 0, .slice none 0 0, .slice none 0 0]) (by repeat (first | exact List.mem_cons_self | refine List.mem_cons_of_mem _ ?_))).d5
                go_wp2_with fail
                have XD := Lib.hid (X.out.below (Below.refl _ _).drew)
                have VXD := Lib.hid (VX.out.below (Below.refl _ _).drew)
                clear z0_0 z0_1 z0_2 z0_3 z0_4 z0f
                clear z1_0 z1_1 z1_2 z1_3 z1_4 z1f
                obtain ⟨y0_0, y0_1, y0_2, y0_3, y0_4, y0f⟩ := (XD.out.zx (g := g7) (cs := [.int .i64 x, .slice A1 (i + 1) c1, .slice none 0 0, .slice A9 (i + 1) c9, .slice none 0 0]) (by repeat (first | exact List.mem_cons_self | refine List.mem_cons_of_mem _ ?_))).d5
                obtain ⟨y1_0, y1_1, y1_2, y1_3, y1_4, y1f⟩ := (XD.out.zx (g := w.heap.size) (cs := [.int .i64 0, .slice none 0 0, .slice none 0 0, .slice none 0 0, .slice none 0 0]) (by repeat (first | exact List.mem_cons_self | refine List.mem_cons_of_mem _ ?_))).d5
                refine wp_region_held_drew (S := (fun _ => True)) (by kernel_rfl) ?_ (fun hH0 => ?_)
                · exact trivial
                refine wpAnyH_take (i := 0) (oi := { dst := some 28, op := Op.fieldAddr 29 (Operand.tmp 7) 1, type := 0, pos := "l12_vat.go:33", after := #[], guard := none }) (v := ?_) rfl (by kernel_rfl) (by kernel_rfl) (by kernel_rfl) (fun _ _ _ h => h) (Or.inl ⟨by rfl, ?_⟩) hH0 ?_
                rotate_left
                · intro w hSw; (try dsimp only at hSw); go_simp; (try with_reducible rfl)
                simp only [Act.put, List.setIfInBounds_toArray, List.set_cons_zero, List.set_cons_succ]
                refine wpAnyH_take (i := 2) (oi := { dst := some 30, op := Op.move (Operand.tmp 9), type := 3, pos := "l12_vat.go:33", after := #[], guard := none }) (v := ?_) rfl (by kernel_rfl) (by kernel_rfl) (by kernel_rfl) (fun _ _ _ h => h) (Or.inl ⟨by rfl, ?_⟩) hH0 ?_
                rotate_left
                · intro w hSw; (try dsimp only at hSw); go_simp; (try with_reducible rfl)
                simp only [Act.put, List.setIfInBounds_toArray, List.set_cons_zero, List.set_cons_succ]
                refine wpAnyH_ready (rs := [1, 3]) (by kernel_rfl) (by simp) ?_
                refine AllReadyH.cons (o := { dst := some 29, op := Op.load 24 (Operand.tmp 28), type := 24, pos := "l12_vat.go:33", after := #[{ on := 0, ground := Ground.data }], guard := none }) rfl (fun K hK => ?_) ?_
                · go_simp
                  refine hK.out _ _ ?_ (fun hH1 => ?_)
                  · exact trivial
                  clear hK K hH0
                  (try simp only [Act.put, List.setIfInBounds_toArray, List.set_cons_zero, List.set_cons_succ])
                  refine wpAnyH_ready (rs := [3]) (by kernel_rfl) (by simp) ?_
                  refine AllReadyH.cons (o := { dst := some 31, op := Op.call { callee := Callee.value (Operand.func 58), args := #[Operand.tmp 30, Operand.const (Value.int IntKind.i64 1)], argTypes := #[3, 3] }, type := 38, pos := "l12_vat.go:33", after := #[{ on := 2, ground := Ground.data }], guard := none }) rfl (fun K hK => ?_) ?_
                  · (go_simp; go_at_call 58; (with_reducible refine (implNewProx _ z 1).mono ?_); rintro e wa ⟨rfl, hb⟩; (have hs8 := hb.size); (try simp only [World.size_drew] at hs8); (have HO := Lib.hid (ownProx wa z wa.heap.size)); (have X8 := Lib.hid (XD.out.below hb)); (have XL := Lib.hid (X8.out.below ((Below.refl _ _).alloc (Nat.le_refl _) (.cells #[.int .i64 3, .int .i64 0, .slice none 0 0, .int .i64 0, .int .i64 0, .int .i64 0, .slice none 0 0, .slice none 0 0, .int .i64 z, .int .i64 1, .int .i64 1, .int .i64 0] 38)))); (obtain ⟨Bg, hg, hgB, hgA, hbk⟩ := VXD.out.app1 (hb.alloc hb.size (.cells #[.int .i64 3, .int .i64 0, .slice none 0 0, .int .i64 0, .int .i64 0, .int .i64 0, .slice none 0 0, .slice none 0 0, .int .i64 z, .int .i64 1, .int .i64 1, .int .i64 0] 38))); (have HG := Lib.hid hg); (have HGB := Lib.hid hgB); (have HGA := Lib.hid hgA); (have HBK := Lib.hid hbk); (have a1 := (X8.out.zx (g := g7) (cs := [.int .i64 x, .slice A1 (i + 1) c1, .slice none 0 0, .slice A9 (i + 1) c9, .slice none 0 0]) (by repeat (first | exact List.mem_cons_self | refine List.mem_cons_of_mem _ ?_))).d5.2.1); (have F8 := fun o9 => ((X8.out.zx (g := g7) (cs := [.int .i64 x, .slice A1 (i + 1) c1, .slice none 0 0, .slice A9 (i + 1) c9, .slice none 0 0]) (by repeat (first | exact List.mem_cons_self | refine List.mem_cons_of_mem _ ?_))).below ((Below.refl _ _).alloc (Nat.le_refl _) o9)).d5.2.1); clear hb hg hgB hgA hbk; (try (go_wp2_with fail)))
                    refine hK.out _ _ ?_ (fun hH2 => ?_)
                    · exact trivial
                    clear hK K hH1
                    (try simp only [Act.put, List.setIfInBounds_toArray, List.set_cons_zero, List.set_cons_succ])
                    refine wpAnyH_ready (rs := [4]) (by kernel_rfl) (by simp) ?_
                    refine AllReadyH.cons (o := { dst := some 32, op := Op.buildSlice 24 1 #[(0, Operand.tmp 31)], type := 24, pos := "l12_vat.go:33", after := #[{ on := 3, ground := Ground.data }], guard := none }) rfl (fun K hK => ?_) ?_
                    · go_simp
                      refine hK.out _ _ ?_ (fun hH3 => ?_)
                      · exact trivial
                      clear hK K hH2
                      (try simp only [Act.put, List.setIfInBounds_toArray, List.set_cons_zero, List.set_cons_succ])
                      refine wpAnyH_ready (rs := [5]) (by kernel_rfl) (by simp) ?_
                      refine AllReadyH.cons (o := { dst := some 33, op := Op.call { callee := Callee.builtin Builtin.append, args := #[Operand.tmp 29, Operand.tmp 32], argTypes := #[24, 24] }, type := 24, pos := "l12_vat.go:33", after := #[{ on := 1, ground := Ground.data }, { on := 4, ground := Ground.data }, { on := 3, ground := Ground.chain }], guard := none }) rfl (fun K hK => ?_) ?_
                      · (refine step_append_dat _ rfl _ _ 24 rfl 12 (by omega) 38 i1 _ 144 Try.underlying24 hj1 hx1 hy1 rfl hz1 0 A1 (i + 1) c1 (objD s :: (zs.take i).map proxD) Bg rfl HG.out (some ⟨wa.heap.size, 0, none⟩) 1 1 [proxD z] (rng wa.heap.size wa.heap.size) rfl (Src.lit rfl HO.out rfl (fun b hb => hb.2)) (fun b hb hb2 => by have h1 := (HGB.out b hb).2; have h2 := hb2.1; (try simp only [World.size_drew] at h1 h2 hs8); omega) (fun a e hb2 => by have h1 := (HGA.out a e).2; have h2 := hb2.1; (try simp only [World.size_drew] at h1 h2 hs8); omega) (by unfold maxLen; omega) (by omega) (Nat.zero_le _) ?_; intro Ab cb wb hG9 hT9 hA9; (have VX9 := Lib.hid (HBK.out wb Ab _ cb _ _ hG9 hT9 hA9 (fun b hb => by have h2 := hb.1; (try simp only [World.size_drew] at h2); (try simp only [World.size_drew]); omega))); (have X9 := Lib.hid (XL.out.touch hT9 (fun b ⟨a, e9, hb9⟩ => by have h1 := (HGA.out a e9).1.1; omega) (fun p hp ⟨a, e9, hb9⟩ => by have h1 := (HGA.out a e9).1.1; have h2 := (HGA.out a e9).1.2; simp only [List.mem_cons, List.not_mem_nil, or_false] at hp; rcases hp with rfl | rfl <;> (simp only at hb9) <;> omega))); clear hG9 hT9 hA9; (have XS := Lib.hid (X9.out.put (fun p hp => by simp only [List.mem_cons, List.not_mem_nil, or_false] at hp; rcases hp with rfl <;> (show (_ : Nat) ≠ _) <;> omega) 1 (.slice Ab ((i + 1) + 1) cb))); (obtain ⟨v0, v1, v2, v3, v4, fv⟩ := (X9.out.zx (g := g7) (cs := [.int .i64 x, .slice A1 (i + 1) c1, .slice none 0 0, .slice A9 (i + 1) c9, .slice none 0 0]) (by repeat (first | exact List.mem_cons_self | refine List.mem_cons_of_mem _ ?_))).d5))
                        refine hK.out _ _ ?_ (fun hH4 => ?_)
                        · exact trivial
                        clear hK K hH3
                        (try simp only [Act.put, List.setIfInBounds_toArray, List.set_cons_zero, List.set_cons_succ])
                        refine wpAnyH_take (i := 6) (oi := { dst := some 34, op := Op.fieldAddr 29 (Operand.tmp 7) 1, type := 0, pos := "l12_vat.go:33", after := #[{ on := 0, ground := Ground.phase }, { on := 1, ground := Ground.phase }, { on := 2, ground := Ground.phase }, { on := 3, ground := Ground.phase }, { on := 4, ground := Ground.phase }, { on := 5, ground := Ground.phase }], guard := none }) (v := ?_) rfl (by kernel_rfl) (by kernel_rfl) (by kernel_rfl) (fun _ _ _ h => h) (Or.inl ⟨by rfl, ?_⟩) hH4 ?_
                        rotate_left
                        · intro w hSw; (try dsimp only at hSw); go_simp; (try with_reducible rfl)
                        simp only [Act.put, List.setIfInBounds_toArray, List.set_cons_zero, List.set_cons_succ]
                        refine wpAnyH_ready (rs := [7]) (by kernel_rfl) (by simp) ?_
                        refine AllReadyH.cons (o := { dst := none, op := Op.store 24 (Operand.tmp 34) (Operand.tmp 33), type := 0, pos := "l12_vat.go:33", after := #[{ on := 6, ground := Ground.data }, { on := 5, ground := Ground.data }, { on := 5, ground := Ground.chain }, { on := 0, ground := Ground.phase }, { on := 1, ground := Ground.phase }, { on := 2, ground := Ground.phase }, { on := 3, ground := Ground.phase }, { on := 4, ground := Ground.phase }, { on := 5, ground := Ground.phase }], guard := none }) rfl (fun K hK => ?_) ?_
                        · go_simp
                          refine hK.out _ _ ?_ (fun hH5 => ?_)
                          · exact trivial
                          clear hK K hH4
                          (try simp only [Act.put, List.setIfInBounds_toArray, List.set_cons_zero, List.set_cons_succ])
                          refine wpAnyH_done (by kernel_rfl) ?_ _
                          replace X : Hid (HeldZ w [(g7, [.int .i64 x, .slice Ab (i + 1 + 1) cb, .slice none 0 0, .slice A9 (i + 1) c9, .slice none 0 0]), (w.heap.size, [.int .i64 0, .slice none 0 0, .slice none 0 0, .slice none 0 0, .slice none 0 0])] (wb.setCell ⟨g7, 1, none⟩ (.slice Ab ((i + 1) + 1) cb))) := XS
                          replace VX := Lib.hid ((VX9.out.touch (w' := (wb.setCell ⟨g7, 1, none⟩ (.slice Ab ((i + 1) + 1) cb))) ((Touch.refl (fun b => b = g7) wb).setCell (p := ⟨g7, 1, none⟩) rfl _) (fun b hb e => by rcases hb with hb | hb; exact hb.2 e; (try simp only [World.size_drew] at hb); omega)).mono (P' := (fun b => w.heap.size + 1 ≤ b ∧ b ≠ g7)) (fun b hb => by rcases hb with hb | hb; exact hb; (try simp only [World.size_drew] at hb); exact ⟨by omega, by omega⟩))
                          clear XS VX9 XL X8 X9 HO HG HGB HGA HBK XD VXD
                          generalize (wb.setCell ⟨g7, 1, none⟩ (.slice Ab ((i + 1) + 1) cb)) = w11 at *
                          go_wp2_with fail
                          go_roundw
                          case rel => exact ⟨i + 1, Ab, cb, A9, c9, by omega, by go_num, X.out, by rw [take_mapI proxD HZ.out, take_mapI rootD HZ.out]; exact VX.out⟩
                          case measure => (simp [intOf]; try omega)
                        exact AllReadyH.nil
                      exact AllReadyH.nil
                    exact AllReadyH.nil
                  exact AllReadyH.nil
                refine AllReadyH.cons (o := { dst := some 31, op := Op.call { callee := Callee.value (Operand.func 58), args := #[Operand.tmp 30, Operand.const (Value.int IntKind.i64 1)], argTypes := #[3, 3] }, type := 38, pos := "l12_vat.go:33", after := #[{ on := 2, ground := Ground.data }], guard := none }) rfl (fun K hK => ?_) ?_
                · (go_simp; go_at_call 58; (with_reducible refine (implNewProx _ z 1).mono ?_); rintro e wa ⟨rfl, hb⟩; (have hs8 := hb.size); (try simp only [World.size_drew] at hs8); (have HO := Lib.hid (ownProx wa z wa.heap.size)); (have X8 := Lib.hid (XD.out.below hb)); (have XL := Lib.hid (X8.out.below ((Below.refl _ _).alloc (Nat.le_refl _) (.cells #[.int .i64 3, .int .i64 0, .slice none 0 0, .int .i64 0, .int .i64 0, .int .i64 0, .slice none 0 0, .slice none 0 0, .int .i64 z, .int .i64 1, .int .i64 1, .int .i64 0] 38)))); (obtain ⟨Bg, hg, hgB, hgA, hbk⟩ := VXD.out.app1 (hb.alloc hb.size (.cells #[.int .i64 3, .int .i64 0, .slice none 0 0, .int .i64 0, .int .i64 0, .int .i64 0, .slice none 0 0, .slice none 0 0, .int .i64 z, .int .i64 1, .int .i64 1, .int .i64 0] 38))); (have HG := Lib.hid hg); (have HGB := Lib.hid hgB); (have HGA := Lib.hid hgA); (have HBK := Lib.hid hbk); (have a1 := (X8.out.zx (g := g7) (cs := [.int .i64 x, .slice A1 (i + 1) c1, .slice none 0 0, .slice A9 (i + 1) c9, .slice none 0 0]) (by repeat (first | exact List.mem_cons_self | refine List.mem_cons_of_mem _ ?_))).d5.2.1); (have F8 := fun o9 => ((X8.out.zx (g := g7) (cs := [.int .i64 x, .slice A1 (i + 1) c1, .slice none 0 0, .slice A9 (i + 1) c9, .slice none 0 0]) (by repeat (first | exact List.mem_cons_self | refine List.mem_cons_of_mem _ ?_))).below ((Below.refl _ _).alloc (Nat.le_refl _) o9)).d5.2.1); clear hb hg hgB hgA hbk; (try (go_wp2_with fail)))
                  refine hK.out _ _ ?_ (fun hH6 => ?_)
                  · exact trivial
                  clear hK K hH0
                  (try simp only [Act.put, List.setIfInBounds_toArray, List.set_cons_zero, List.set_cons_succ])
                  refine wpAnyH_ready (rs := [1, 4]) (by kernel_rfl) (by simp) ?_
                  refine AllReadyH.cons (o := { dst := some 29, op := Op.load 24 (Operand.tmp 28), type := 24, pos := "l12_vat.go:33", after := #[{ on := 0, ground := Ground.data }], guard := none }) rfl (fun K hK => ?_) ?_
                  · go_simp
                    refine hK.out _ _ ?_ (fun hH7 => ?_)
                    · exact trivial
                    clear hK K hH6
                    (try simp only [Act.put, List.setIfInBounds_toArray, List.set_cons_zero, List.set_cons_succ])
                    refine wpAnyH_ready (rs := [4]) (by kernel_rfl) (by simp) ?_
                    refine AllReadyH.cons (o := { dst := some 32, op := Op.buildSlice 24 1 #[(0, Operand.tmp 31)], type := 24, pos := "l12_vat.go:33", after := #[{ on := 3, ground := Ground.data }], guard := none }) rfl (fun K hK => ?_) ?_
                    · go_simp
                      refine hK.out _ _ ?_ (fun hH8 => ?_)
                      · exact trivial
                      clear hK K hH7
                      (try simp only [Act.put, List.setIfInBounds_toArray, List.set_cons_zero, List.set_cons_succ])
                      refine wpAnyH_ready (rs := [5]) (by kernel_rfl) (by simp) ?_
                      refine AllReadyH.cons (o := { dst := some 33, op := Op.call { callee := Callee.builtin Builtin.append, args := #[Operand.tmp 29, Operand.tmp 32], argTypes := #[24, 24] }, type := 24, pos := "l12_vat.go:33", after := #[{ on := 1, ground := Ground.data }, { on := 4, ground := Ground.data }, { on := 3, ground := Ground.chain }], guard := none }) rfl (fun K hK => ?_) ?_
                      · (refine step_append_dat _ rfl _ _ 24 rfl 12 (by omega) 38 i1 _ 144 Try.underlying24 hj1 hx1 hy1 rfl hz1 0 A1 (i + 1) c1 (objD s :: (zs.take i).map proxD) Bg rfl HG.out (some ⟨wa.heap.size, 0, none⟩) 1 1 [proxD z] (rng wa.heap.size wa.heap.size) rfl (Src.lit rfl HO.out rfl (fun b hb => hb.2)) (fun b hb hb2 => by have h1 := (HGB.out b hb).2; have h2 := hb2.1; (try simp only [World.size_drew] at h1 h2 hs8); omega) (fun a e hb2 => by have h1 := (HGA.out a e).2; have h2 := hb2.1; (try simp only [World.size_drew] at h1 h2 hs8); omega) (by unfold maxLen; omega) (by omega) (Nat.zero_le _) ?_; intro Ab cb wb hG9 hT9 hA9; (have VX9 := Lib.hid (HBK.out wb Ab _ cb _ _ hG9 hT9 hA9 (fun b hb => by have h2 := hb.1; (try simp only [World.size_drew] at h2); (try simp only [World.size_drew]); omega))); (have X9 := Lib.hid (XL.out.touch hT9 (fun b ⟨a, e9, hb9⟩ => by have h1 := (HGA.out a e9).1.1; omega) (fun p hp ⟨a, e9, hb9⟩ => by have h1 := (HGA.out a e9).1.1; have h2 := (HGA.out a e9).1.2; simp only [List.mem_cons, List.not_mem_nil, or_false] at hp; rcases hp with rfl | rfl <;> (simp only at hb9) <;> omega))); clear hG9 hT9 hA9; (have XS := Lib.hid (X9.out.put (fun p hp => by simp only [List.mem_cons, List.not_mem_nil, or_false] at hp; rcases hp with rfl <;> (show (_ : Nat) ≠ _) <;> omega) 1 (.slice Ab ((i + 1) + 1) cb))); (obtain ⟨v0, v1, v2, v3, v4, fv⟩ := (X9.out.zx (g := g7) (cs := [.int .i64 x, .slice A1 (i + 1) c1, .slice none 0 0, .slice A9 (i + 1) c9, .slice none 0 0]) (by repeat (first | exact List.mem_cons_self | refine List.mem_cons_of_mem _ ?_))).d5))
                        refine hK.out _ _ ?_ (fun hH9 => ?_)
                        · exact trivial
                        clear hK K hH8
                        (try simp only [Act.put, List.setIfInBounds_toArray, List.set_cons_zero, List.set_cons_succ])
                        refine wpAnyH_take (i := 6) (oi := { dst := some 34, op := Op.fieldAddr 29 (Operand.tmp 7) 1, type := 0, pos := "l12_vat.go:33", after := #[{ on := 0, ground := Ground.phase }, { on := 1, ground := Ground.phase }, { on := 2, ground := Ground.phase }, { on := 3, ground := Ground.phase }, { on := 4, ground := Ground.phase }, { on := 5, ground := Ground.phase }], guard := none }) (v := ?_) rfl (by kernel_rfl) (by kernel_rfl) (by kernel_rfl) (fun _ _ _ h => h) (Or.inl ⟨by rfl, ?_⟩) hH9 ?_
                        rotate_left
                        · intro w hSw; (try dsimp only at hSw); go_simp; (try with_reducible rfl)
                        simp only [Act.put, List.setIfInBounds_toArray, List.set_cons_zero, List.set_cons_succ]
                        refine wpAnyH_ready (rs := [7]) (by kernel_rfl) (by simp) ?_
                        refine AllReadyH.cons (o := { dst := none, op := Op.store 24 (Operand.tmp 34) (Operand.tmp 33), type := 0, pos := "l12_vat.go:33", after := #[{ on := 6, ground := Ground.data }, { on := 5, ground := Ground.data }, { on := 5, ground := Ground.chain }, { on := 0, ground := Ground.phase }, { on := 1, ground := Ground.phase }, { on := 2, ground := Ground.phase }, { on := 3, ground := Ground.phase }, { on := 4, ground := Ground.phase }, { on := 5, ground := Ground.phase }], guard := none }) rfl (fun K hK => ?_) ?_
                        · go_simp
                          refine hK.out _ _ ?_ (fun hH10 => ?_)
                          · exact trivial
                          clear hK K hH9
                          (try simp only [Act.put, List.setIfInBounds_toArray, List.set_cons_zero, List.set_cons_succ])
                          refine wpAnyH_done (by kernel_rfl) ?_ _
                          replace X : Hid (HeldZ w [(g7, [.int .i64 x, .slice Ab (i + 1 + 1) cb, .slice none 0 0, .slice A9 (i + 1) c9, .slice none 0 0]), (w.heap.size, [.int .i64 0, .slice none 0 0, .slice none 0 0, .slice none 0 0, .slice none 0 0])] (wb.setCell ⟨g7, 1, none⟩ (.slice Ab ((i + 1) + 1) cb))) := XS
                          replace VX := Lib.hid ((VX9.out.touch (w' := (wb.setCell ⟨g7, 1, none⟩ (.slice Ab ((i + 1) + 1) cb))) ((Touch.refl (fun b => b = g7) wb).setCell (p := ⟨g7, 1, none⟩) rfl _) (fun b hb e => by rcases hb with hb | hb; exact hb.2 e; (try simp only [World.size_drew] at hb); omega)).mono (P' := (fun b => w.heap.size + 1 ≤ b ∧ b ≠ g7)) (fun b hb => by rcases hb with hb | hb; exact hb; (try simp only [World.size_drew] at hb); exact ⟨by omega, by omega⟩))
                          clear XS VX9 XL X8 X9 HO HG HGB HGA HBK XD VXD
                          generalize (wb.setCell ⟨g7, 1, none⟩ (.slice Ab ((i + 1) + 1) cb)) = w11 at *
                          go_wp2_with fail
                          go_roundw
                          case rel => exact ⟨i + 1, Ab, cb, A9, c9, by omega, by go_num, X.out, by rw [take_mapI proxD HZ.out, take_mapI rootD HZ.out]; exact VX.out⟩
                          case measure => (simp [intOf]; try omega)
                        exact AllReadyH.nil
                      exact AllReadyH.nil
                    exact AllReadyH.nil
                  refine AllReadyH.cons (o := { dst := some 32, op := Op.buildSlice 24 1 #[(0, Operand.tmp 31)], type := 24, pos := "l12_vat.go:33", after := #[{ on := 3, ground := Ground.data }], guard := none }) rfl (fun K hK => ?_) ?_
                  · go_simp
                    refine hK.out _ _ ?_ (fun hH11 => ?_)
                    · exact trivial
                    clear hK K hH6
                    (try simp only [Act.put, List.setIfInBounds_toArray, List.set_cons_zero, List.set_cons_succ])
                    refine wpAnyH_ready (rs := [1]) (by kernel_rfl) (by simp) ?_
                    refine AllReadyH.cons (o := { dst := some 29, op := Op.load 24 (Operand.tmp 28), type := 24, pos := "l12_vat.go:33", after := #[{ on := 0, ground := Ground.data }], guard := none }) rfl (fun K hK => ?_) ?_
                    · go_simp
                      refine hK.out _ _ ?_ (fun hH12 => ?_)
                      · exact trivial
                      clear hK K hH11
                      (try simp only [Act.put, List.setIfInBounds_toArray, List.set_cons_zero, List.set_cons_succ])
                      refine wpAnyH_ready (rs := [5]) (by kernel_rfl) (by simp) ?_
                      refine AllReadyH.cons (o := { dst := some 33, op := Op.call { callee := Callee.builtin Builtin.append, args := #[Operand.tmp 29, Operand.tmp 32], argTypes := #[24, 24] }, type := 24, pos := "l12_vat.go:33", after := #[{ on := 1, ground := Ground.data }, { on := 4, ground := Ground.data }, { on := 3, ground := Ground.chain }], guard := none }) rfl (fun K hK => ?_) ?_
                      · (refine step_append_dat _ rfl _ _ 24 rfl 12 (by omega) 38 i1 _ 144 Try.underlying24 hj1 hx1 hy1 rfl hz1 0 A1 (i + 1) c1 (objD s :: (zs.take i).map proxD) Bg rfl HG.out (some ⟨wa.heap.size, 0, none⟩) 1 1 [proxD z] (rng wa.heap.size wa.heap.size) rfl (Src.lit rfl HO.out rfl (fun b hb => hb.2)) (fun b hb hb2 => by have h1 := (HGB.out b hb).2; have h2 := hb2.1; (try simp only [World.size_drew] at h1 h2 hs8); omega) (fun a e hb2 => by have h1 := (HGA.out a e).2; have h2 := hb2.1; (try simp only [World.size_drew] at h1 h2 hs8); omega) (by unfold maxLen; omega) (by omega) (Nat.zero_le _) ?_; intro Ab cb wb hG9 hT9 hA9; (have VX9 := Lib.hid (HBK.out wb Ab _ cb _ _ hG9 hT9 hA9 (fun b hb => by have h2 := hb.1; (try simp only [World.size_drew] at h2); (try simp only [World.size_drew]); omega))); (have X9 := Lib.hid (XL.out.touch hT9 (fun b ⟨a, e9, hb9⟩ => by have h1 := (HGA.out a e9).1.1; omega) (fun p hp ⟨a, e9, hb9⟩ => by have h1 := (HGA.out a e9).1.1; have h2 := (HGA.out a e9).1.2; simp only [List.mem_cons, List.not_mem_nil, or_false] at hp; rcases hp with rfl | rfl <;> (simp only at hb9) <;> omega))); clear hG9 hT9 hA9; (have XS := Lib.hid (X9.out.put (fun p hp => by simp only [List.mem_cons, List.not_mem_nil, or_false] at hp; rcases hp with rfl <;> (show (_ : Nat) ≠ _) <;> omega) 1 (.slice Ab ((i + 1) + 1) cb))); (obtain ⟨v0, v1, v2, v3, v4, fv⟩ := (X9.out.zx (g := g7) (cs := [.int .i64 x, .slice A1 (i + 1) c1, .slice none 0 0, .slice A9 (i + 1) c9, .slice none 0 0]) (by repeat (first | exact List.mem_cons_self | refine List.mem_cons_of_mem _ ?_))).d5))
                        refine hK.out _ _ ?_ (fun hH13 => ?_)
                        · exact trivial
                        clear hK K hH12
                        (try simp only [Act.put, List.setIfInBounds_toArray, List.set_cons_zero, List.set_cons_succ])
                        refine wpAnyH_take (i := 6) (oi := { dst := some 34, op := Op.fieldAddr 29 (Operand.tmp 7) 1, type := 0, pos := "l12_vat.go:33", after := #[{ on := 0, ground := Ground.phase }, { on := 1, ground := Ground.phase }, { on := 2, ground := Ground.phase }, { on := 3, ground := Ground.phase }, { on := 4, ground := Ground.phase }, { on := 5, ground := Ground.phase }], guard := none }) (v := ?_) rfl (by kernel_rfl) (by kernel_rfl) (by kernel_rfl) (fun _ _ _ h => h) (Or.inl ⟨by rfl, ?_⟩) hH13 ?_
                        rotate_left
                        · intro w hSw; (try dsimp only at hSw); go_simp; (try with_reducible rfl)
                        simp only [Act.put, List.setIfInBounds_toArray, List.set_cons_zero, List.set_cons_succ]
                        refine wpAnyH_ready (rs := [7]) (by kernel_rfl) (by simp) ?_
                        refine AllReadyH.cons (o := { dst := none, op := Op.store 24 (Operand.tmp 34) (Operand.tmp 33), type := 0, pos := "l12_vat.go:33", after := #[{ on := 6, ground := Ground.data }, { on := 5, ground := Ground.data }, { on := 5, ground := Ground.chain }, { on := 0, ground := Ground.phase }, { on := 1, ground := Ground.phase }, { on := 2, ground := Ground.phase }, { on := 3, ground := Ground.phase }, { on := 4, ground := Ground.phase }, { on := 5, ground := Ground.phase }], guard := none }) rfl (fun K hK => ?_) ?_
                        · go_simp
                          refine hK.out _ _ ?_ (fun hH14 => ?_)
                          · exact trivial
                          clear hK K hH13
                          (try simp only [Act.put, List.setIfInBounds_toArray, List.set_cons_zero, List.set_cons_succ])
                          refine wpAnyH_done (by kernel_rfl) ?_ _
                          replace X : Hid (HeldZ w [(g7, [.int .i64 x, .slice Ab (i + 1 + 1) cb, .slice none 0 0, .slice A9 (i + 1) c9, .slice none 0 0]), (w.heap.size, [.int .i64 0, .slice none 0 0, .slice none 0 0, .slice none 0 0, .slice none 0 0])] (wb.setCell ⟨g7, 1, none⟩ (.slice Ab ((i + 1) + 1) cb))) := XS
                          replace VX := Lib.hid ((VX9.out.touch (w' := (wb.setCell ⟨g7, 1, none⟩ (.slice Ab ((i + 1) + 1) cb))) ((Touch.refl (fun b => b = g7) wb).setCell (p := ⟨g7, 1, none⟩) rfl _) (fun b hb e => by rcases hb with hb | hb; exact hb.2 e; (try simp only [World.size_drew] at hb); omega)).mono (P' := (fun b => w.heap.size + 1 ≤ b ∧ b ≠ g7)) (fun b hb => by rcases hb with hb | hb; exact hb; (try simp only [World.size_drew] at hb); exact ⟨by omega, by omega⟩))
                          clear XS VX9 XL X8 X9 HO HG HGB HGA HBK XD VXD
                          generalize (wb.setCell ⟨g7, 1, none⟩ (.slice Ab ((i + 1) + 1) cb)) = w11 at *
                          go_wp2_with fail
                          go_roundw
                          case rel => exact ⟨i + 1, Ab, cb, A9, c9, by omega, by go_num, X.out, by rw [take_mapI proxD HZ.out, take_mapI rootD HZ.out]; exact VX.out⟩
                          case measure => (simp [intOf]; try omega)
                        exact AllReadyH.nil
                      exact AllReadyH.nil
                    exact AllReadyH.nil
                  exact AllReadyH.nil
                exact AllReadyH.nil
              exact AllReadyH.nil
            exact AllReadyH.nil
          exact AllReadyH.nil
        exact AllReadyH.nil
      refine AllReadyH.cons (o := { dst := some 24, op := Op.call { callee := Callee.value (Operand.func 57), args := #[Operand.tmp 23], argTypes := #[3] }, type := 97, pos := "l12_vat.go:32", after := #[{ on := 2, ground := Ground.data }], guard := none }) rfl (fun K hK => ?_) ?_
      · (go_simp; go_at_call 57; (with_reducible refine (implRoot z _).mono ?_); rintro e w8 ⟨B2, k2, B4, k4, B6, k6, rfl, hO, hb⟩; (have hs8 := hb.size); (try simp only [World.size_drew] at hs8); (have HO := Lib.hid (show Owns w8 (rootD z) [.int .i64 z, .bool true, .slice B2 1 k2, .int .i64 1, .slice B4 0 k4, .int .i64 0, .slice B6 0 k6] (rng wr.drew.heap.size w8.heap.size) from hO)); (have X8 := Lib.hid (XD.out.below hb)); (have XL := Lib.hid (X8.out.below ((Below.refl _ _).alloc (Nat.le_refl _) (.cells #[.int .i64 z, .bool true, .slice B2 1 k2, .int .i64 1, .slice B4 0 k4, .int .i64 0, .slice B6 0 k6] 97)))); (obtain ⟨Bg, hg, hgB, hgA, hbk⟩ := VXD.out.app3 (hb.alloc hb.size (.cells #[.int .i64 z, .bool true, .slice B2 1 k2, .int .i64 1, .slice B4 0 k4, .int .i64 0, .slice B6 0 k6] 97))); (have HG := Lib.hid hg); (have HGB := Lib.hid hgB); (have HGA := Lib.hid hgA); (have HBK := Lib.hid hbk); (have a1 := (X8.out.zx (g := g7) (cs := [.int .i64 x, .slice A1 (i + 1) c1, .slice none 0 0, .slice A3 i c3, .slice none 0 0]) (by repeat (first | exact List.mem_cons_self | refine List.mem_cons_of_mem _ ?_))).d5.2.2.2.1); (have F8 := fun o9 => ((X8.out.zx (g := g7) (cs := [.int .i64 x, .slice A1 (i + 1) c1, .slice none 0 0, .slice A3 i c3, .slice none 0 0]) (by repeat (first | exact List.mem_cons_self | refine List.mem_cons_of_mem _ ?_))).below ((Below.refl _ _).alloc (Nat.le_refl _) o9)).d5.2.2.2.1); clear hb hg hgB hgA hbk hO; (try (go_wp2_with fail)))
        refine hK.out _ _ ?_ (fun hH6 => ?_)
        · exact trivial
        clear hK K hH0
        (try simp only [Act.put, List.setIfInBounds_toArray, List.set_cons_zero, List.set_cons_succ])
        refine wpAnyH_ready (rs := [1, 4]) (by kernel_rfl) (by simp) ?_
        refine AllReadyH.cons (o := { dst := some 22, op := Op.load 26 (Operand.tmp 21), type := 26, pos := "l12_vat.go:32", after := #[{ on := 0, ground := Ground.data }], guard := none }) rfl (fun K hK => ?_) ?_
        · go_simp
          refine hK.out _ _ ?_ (fun hH7 => ?_)
          · exact trivial
          clear hK K hH6
          (try simp only [Act.put, List.setIfInBounds_toArray, List.set_cons_zero, List.set_cons_succ])
          refine wpAnyH_ready (rs := [4]) (by kernel_rfl) (by simp) ?_
          refine AllReadyH.cons (o := { dst := some 25, op := Op.buildSlice 26 1 #[(0, Operand.tmp 24)], type := 26, pos := "l12_vat.go:32", after := #[{ on := 3, ground := Ground.data }], guard := none }) rfl (fun K hK => ?_) ?_
          · go_simp
            refine hK.out _ _ ?_ (fun hH8 => ?_)
            · exact trivial
            clear hK K hH7
            (try simp only [Act.put, List.setIfInBounds_toArray, List.set_cons_zero, List.set_cons_succ])
            refine wpAnyH_ready (rs := [5]) (by kernel_rfl) (by simp) ?_
            refine AllReadyH.cons (o := { dst := some 26, op := Op.call { callee := Callee.builtin Builtin.append, args := #[Operand.tmp 22, Operand.tmp 25], argTypes := #[26, 26] }, type := 26, pos := "l12_vat.go:32", after := #[{ on := 1, ground := Ground.data }, { on := 4, ground := Ground.data }, { on := 3, ground := Ground.chain }], guard := none }) rfl (fun K hK => ?_) ?_
            · (refine step_append_dat _ rfl _ _ 26 rfl 7 (by omega) 97 i3 _ 104 Try.underlying26 hj3 hx3 hy3 rfl hz3 0 A3 i c3 ((zs.take i).map rootD) Bg rfl HG.out (some ⟨w8.heap.size, 0, none⟩) 1 1 [rootD z] (rng wr.drew.heap.size w8.heap.size) rfl (Src.lit rfl HO.out rfl (fun b hb => hb.2)) (fun b hb hb2 => by have h1 := (HGB.out b hb).2; have h2 := hb2.1; (try simp only [World.size_drew] at h1 h2 hs8); omega) (fun a e hb2 => by have h1 := (HGA.out a e).2; have h2 := hb2.1; (try simp only [World.size_drew] at h1 h2 hs8); omega) (by unfold maxLen; omega) (by omega) (Nat.zero_le _) ?_; intro A9 c9 w9 hG9 hT9 hA9; (have VX9 := Lib.hid (HBK.out w9 A9 _ c9 _ _ hG9 hT9 hA9 (fun b hb => by have h2 := hb.1; (try simp only [World.size_drew] at h2); (try simp only [World.size_drew]); omega))); (have X9 := Lib.hid (XL.out.touch hT9 (fun b ⟨a, e9, hb9⟩ => by have h1 := (HGA.out a e9).1.1; omega) (fun p hp ⟨a, e9, hb9⟩ => by have h1 := (HGA.out a e9).1.1; have h2 := (HGA.out a e9).1.2; simp only [List.mem_cons, List.not_mem_nil, or_false] at hp; rcases hp with rfl | rfl <;> (simp only at hb9) <;> omega))); clear hG9 hT9 hA9; (have XS := Lib.hid (X9.out.put (fun p hp => by simp only [List.mem_cons, List.not_mem_nil, or_false] at hp; rcases hp with rfl <;> (show (_ : Nat) ≠ _) <;> omega) 3 (.slice A9 (i + 1) c9))); (obtain ⟨v0, v1, v2, v3, v4, fv⟩ := (X9.out.zx (g := g7) (cs := [.int .i64 x, .slice A1 (i + 1) c1, .slice none 0 0, .slice A3 i c3, .slice none 0 0]) (by repeat (first | exact List.mem_cons_self | refine List.mem_cons_of_mem _ ?_))).d5))
              refine hK.out _ _ ?_ (fun hH9 => ?_)
              · exact trivial
              clear hK K hH8
              (try simp only [Act.put, List.setIfInBounds_toArray, List.set_cons_zero, List.set_cons_succ])
              refine wpAnyH_take (i := 6) (oi := { dst := some 27, op := Op.fieldAddr 29 (Operand.tmp 7) 3, type := 0, pos := "l12_vat.go:32", after := #[{ on := 0, ground := Ground.phase }, { on := 1, ground := Ground.phase }, { on := 2, ground := Ground.phase }, { on := 3, ground := Ground.phase }, { on := 4, ground := Ground.phase }, { on := 5, ground := Ground.phase }], guard := none }) (v := ?_) rfl (by kernel_rfl) (by kernel_rfl) (by kernel_rfl) (fun _ _ _ h => h) (Or.inl ⟨by rfl, ?_⟩) hH9 ?_
              rotate_left
              · intro w hSw; (try dsimp only at hSw); go_simp; (try with_reducible rfl)
              simp only [Act.put, List.setIfInBounds_toArray, List.set_cons_zero, List.set_cons_succ]
              refine wpAnyH_ready (rs := [7]) (by kernel_rfl) (by simp) ?_
              refine AllReadyH.cons (o := { dst := none, op := Op.store 26 (Operand.tmp 27) (Operand.tmp 26), type := 0, pos := "l12_vat.go:32", after := #[{ on := 6, ground := Ground.data }, { on := 5, ground := Ground.data }, { on := 5, ground := Ground.chain }, { on := 0, ground := Ground.phase }, { on := 1, ground := Ground.phase }, { on := 2, ground := Ground.phase }, { on := 3, ground := Ground.phase }, { on := 4, ground := Ground.phase }, { on := 5, ground := Ground.phase }], guard := none }) rfl (fun K hK => ?_) ?_
              · go_simp
                refine hK.out _ _ ?_ (fun hH10 => ?_)
                · exact trivial
                clear hK K hH9
                (try simp only [Act.put, List.setIfInBounds_toArray, List.set_cons_zero, List.set_cons_succ])
                refine wpAnyH_done (by kernel_rfl) ?_ _
                replace X : Hid (HeldZ w [(g7, [.int .i64 x, .slice A1 (i + 1) c1, .slice none 0 0, .slice A9 (i + 1) c9, .slice none 0 0]), (w.heap.size, [.int .i64 0, .slice none 0 0, .slice none 0 0, .slice none 0 0, .slice none 0 0])] (w9.setCell ⟨g7, 3, none⟩ (.slice A9 (i + 1) c9))) := XS
                replace VX := Lib.hid ((VX9.out.touch (w' := (w9.setCell ⟨g7, 3, none⟩ (.slice A9 (i + 1) c9))) ((Touch.refl (fun b => b = g7) w9).setCell (p := ⟨g7, 3, none⟩) rfl _) (fun b hb e => by rcases hb with hb | hb; exact hb.2 e; (try simp only [World.size_drew] at hb); omega)).mono (P' := (fun b => w.heap.size + 1 ≤ b ∧ b ≠ g7)) (fun b hb => by rcases hb with hb | hb; exact hb; (try simp only [World.size_drew] at hb); exact ⟨by omega, by omega⟩))
                clear XS VX9 XL X8 X9 HO HG HGB HGA HBK XD VXD
                generalize (w9.setCell ⟨g7, 3, none⟩ (.slice A9 (i + 1) c9)) = w10 at *
                have hgb := (X.out.zx (g := g7) (cs := [.int .i64 x, .slice A1 (i + 1) c1, .slice none 0 0, .slice A9 (i + 1) c9, .slice none 0 0]) (by repeat (first | exact List.mem_cons_self | refine List.mem_cons_of_mem _ ?_))).lt
                obtain ⟨z0_0, z0_1, z0_2, z0_3, z0_4, z0f⟩ := (X.out.zx (g := g7) (cs := [.int .i64 x, .slice A1 (i + 1) c1, .slice none 0 0, .slice A9 (i + 1) c9, .slice none 0 0]) (by repeat (first | exact List.mem_cons_self | refine List.mem_cons_of_mem _ ?_))).d5
                obtain ⟨z1_0, z1_1, z1_2, z1_3, z1_4, z1f⟩ := (X.out.zx (g := w.heap.size) (cs := [.int .i64 0, .slice none 0 0, .slice none 0 0, .slice none 0 0, .slice none 0 0]) (by repeat (first | exact List.mem_cons_self | refine List.mem_cons_of_mem _ ?_))).d5
                go_wp2_with fail
                have XD := Lib.hid (X.out.below (Below.refl _ _).drew)
                have VXD := Lib.hid (VX.out.below (Below.refl _ _).drew)
                clear z0_0 z0_1 z0_2 z0_3 z0_4 z0f
                clear z1_0 z1_1 z1_2 z1_3 z1_4 z1f
                obtain ⟨y0_0, y0_1, y0_2, y0_3, y0_4, y0f⟩ := (XD.out.zx (g := g7) (cs := [.int .i64 x, .slice A1 (i + 1) c1, .slice none 0 0, .slice A9 (i + 1) c9, .slice none 0 0]) (by repeat (first | exact List.mem_cons_self | refine List.mem_cons_of_mem _ ?_))).d5
                obtain ⟨y1_0, y1_1, y1_2, y1_3, y1_4, y1f⟩ := (XD.out.zx (g := w.heap.size) (cs := [.int .i64 0, .slice none 0 0, .slice none 0 0, .slice none 0 0, .slice none 0 0]) (by repeat (first | exact List.mem_cons_self | refine List.mem_cons_of_mem _ ?_))).d5
                refine wp_region_held_drew (S := (fun _ => True)) (by kernel_rfl) ?_ (fun hH0 => ?_)
                · exact trivial
                refine wpAnyH_take (i := 0) (oi := { dst := some 28, op := Op.fieldAddr 29 (Operand.tmp 7) 1, type := 0, pos := "l12_vat.go:33", after := #[], guard := none }) (v := ?_) rfl (by kernel_rfl) (by kernel_rfl) (by kernel_rfl) (fun _ _ _ h => h) (Or.inl ⟨by rfl, ?_⟩) hH0 ?_
                rotate_left
                · intro w hSw; (try dsimp only at hSw); go_simp; (try with_reducible rfl)
                simp only [Act.put, List.setIfInBounds_toArray, List.set_cons_zero, List.set_cons_succ]
                refine wpAnyH_take (i := 2) (oi := { dst := some 30, op := Op.move (Operand.tmp 9), type := 3, pos := "l12_vat.go:33", after := #[], guard := none }) (v := ?_) rfl (by kernel_rfl) (by kernel_rfl) (by kernel_rfl) (fun _ _ _ h => h) (Or.inl ⟨by rfl, ?_⟩) hH0 ?_
                rotate_left
                · intro w hSw; (try dsimp only at hSw); go_simp; (try with_reducible rfl)
                simp only [Act.put, List.setIfInBounds_toArray, List.set_cons_zero, List.set_cons_succ]
                refine wpAnyH_ready (rs := [1, 3]) (by kernel_rfl) (by simp) ?_
                refine AllReadyH.cons (o := { dst := some 29, op := Op.load 24 (Operand.tmp 28), type := 24, pos := "l12_vat.go:33", after := #[{ on := 0, ground := Ground.data }], guard := none }) rfl (fun K hK => ?_) ?_
                · go_simp
                  refine hK.out _ _ ?_ (fun hH1 => ?_)
                  · exact trivial
                  clear hK K hH0
                  (try simp only [Act.put, List.setIfInBounds_toArray, List.set_cons_zero, List.set_cons_succ])
                  refine wpAnyH_ready (rs := [3]) (by kernel_rfl) (by simp) ?_
                  refine AllReadyH.cons (o := { dst := some 31, op := Op.call { callee := Callee.value (Operand.func 58), args := #[Operand.tmp 30, Operand.const (Value.int IntKind.i64 1)], argTypes := #[3, 3] }, type := 38, pos := "l12_vat.go:33", after := #[{ on := 2, ground := Ground.data }], guard := none }) rfl (fun K hK => ?_) ?_
                  · (go_simp; go_at_call 58; (with_reducible refine (implNewProx _ z 1).mono ?_); rintro e wa ⟨rfl, hb⟩; (have hs8 := hb.size); (try simp only [World.size_drew] at hs8); (have HO := Lib.hid (ownProx wa z wa.heap.size)); (have X8 := Lib.hid (XD.out.below hb)); (have XL := Lib.hid (X8.out.below ((Below.refl _ _).alloc (Nat.le_refl _) (.cells #[.int .i64 3, .int .i64 0, .slice none 0 0, .int .i64 0, .int .i64 0, .int .i64 0, .slice none 0 0, .slice none 0 0, .int .i64 z, .int .i64 1, .int .i64 1, .int .i64 0] 38)))); (obtain ⟨Bg, hg, hgB, hgA, hbk⟩ := VXD.out.app1 (hb.alloc hb.size (.cells #[.int .i64 3, .int .i64 0, .slice none 0 0, .int .i64 0, .int .i64 0, .int .i64 0, .slice none 0 0, .slice none 0 0, .int .i64 z, .int .i64 1, .int .i64 1, .int .i64 0] 38))); (have HG := Lib.hid hg); (have HGB := Lib.hid hgB); (have HGA := Lib.hid hgA); (have HBK := Lib.hid hbk); (have a1 := (X8.out.zx (g := g7) (cs := [.int .i64 x, .slice A1 (i + 1) c1, .slice none 0 0, .slice A9 (i + 1) c9, .slice none 0 0]) (by repeat (first | exact List.mem_cons_self | refine List.mem_cons_of_mem _ ?_))).d5.2.1); (have F8 := fun o9 => ((X8.out.zx (g := g7) (cs := [.int .i64 x, .slice A1 (i + 1) c1, .slice none 0 0, .slice A9 (i + 1) c9, .slice none 0 0]) (by repeat (first | exact List.mem_cons_self | refine List.mem_cons_of_mem _ ?_))).below ((Below.refl _ _).alloc (Nat.le_refl _) o9)).d5.2.1); clear hb hg hgB hgA hbk; (try (go_wp2_with fail)))
                    refine hK.out _ _ ?_ (fun hH2 => ?_)
                    · exact trivial
                    clear hK K hH1
                    (try simp only [Act.put, List.setIfInBounds_toArray, List.set_cons_zero, List.set_cons_succ])
                    refine wpAnyH_ready (rs := [4]) (by kernel_rfl) (by simp) ?_
                    refine AllReadyH.cons (o := { dst := some 32, op := Op.buildSlice 24 1 #[(0, Operand.tmp 31)], type := 24, pos := "l12_vat.go:33", after := #[{ on := 3, ground := Ground.data }], guard := none }) rfl (fun K hK => ?_) ?_
                    · go_simp
                      refine hK.out _ _ ?_ (fun hH3 => ?_)
                      · exact trivial
                      clear hK K hH2
                      (try simp only [Act.put, List.setIfInBounds_toArray, List.set_cons_zero, List.set_cons_succ])
                      refine wpAnyH_ready (rs := [5]) (by kernel_rfl) (by simp) ?_
                      refine AllReadyH.cons (o := { dst := some 33, op := Op.call { callee := Callee.builtin Builtin.append, args := #[Operand.tmp 29, Operand.tmp 32], argTypes := #[24, 24] }, type := 24, pos := "l12_vat.go:33", after := #[{ on := 1, ground := Ground.data }, { on := 4, ground := Ground.data }, { on := 3, ground := Ground.chain }], guard := none }) rfl (fun K hK => ?_) ?_
                      · (refine step_append_dat _ rfl _ _ 24 rfl 12 (by omega) 38 i1 _ 144 Try.underlying24 hj1 hx1 hy1 rfl hz1 0 A1 (i + 1) c1 (objD s :: (zs.take i).map proxD) Bg rfl HG.out (some ⟨wa.heap.size, 0, none⟩) 1 1 [proxD z] (rng wa.heap.size wa.heap.size) rfl (Src.lit rfl HO.out rfl (fun b hb => hb.2)) (fun b hb hb2 => by have h1 := (HGB.out b hb).2; have h2 := hb2.1; (try simp only [World.size_drew] at h1 h2 hs8); omega) (fun a e hb2 => by have h1 := (HGA.out a e).2; have h2 := hb2.1; (try simp only [World.size_drew] at h1 h2 hs8); omega) (by unfold maxLen; omega) (by omega) (Nat.zero_le _) ?_; intro Ab cb wb hG9 hT9 hA9; (have VX9 := Lib.hid (HBK.out wb Ab _ cb _ _ hG9 hT9 hA9 (fun b hb => by have h2 := hb.1; (try simp only [World.size_drew] at h2); (try simp only [World.size_drew]); omega))); (have X9 := Lib.hid (XL.out.touch hT9 (fun b ⟨a, e9, hb9⟩ => by have h1 := (HGA.out a e9).1.1; omega) (fun p hp ⟨a, e9, hb9⟩ => by have h1 := (HGA.out a e9).1.1; have h2 := (HGA.out a e9).1.2; simp only [List.mem_cons, List.not_mem_nil, or_false] at hp; rcases hp with rfl | rfl <;> (simp only at hb9) <;> omega))); clear hG9 hT9 hA9; (have XS := Lib.hid (X9.out.put (fun p hp => by simp only [List.mem_cons, List.not_mem_nil, or_false] at hp; rcases hp with rfl <;> (show (_ : Nat) ≠ _) <;> omega) 1 (.slice Ab ((i + 1) + 1) cb))); (obtain ⟨v0, v1, v2, v3, v4, fv⟩ := (X9.out.zx (g := g7) (cs := [.int .i64 x, .slice A1 (i + 1) c1, .slice none 0 0, .slice A9 (i + 1) c9, .slice none 0 0]) (by repeat (first | exact List.mem_cons_self | refine List.mem_cons_of_mem _ ?_))).d5))
                        refine hK.out _ _ ?_ (fun hH4 => ?_)
                        · exact trivial
                        clear hK K hH3
                        (try simp only [Act.put, List.setIfInBounds_toArray, List.set_cons_zero, List.set_cons_succ])
                        refine wpAnyH_take (i := 6) (oi := { dst := some 34, op := Op.fieldAddr 29 (Operand.tmp 7) 1, type := 0, pos := "l12_vat.go:33", after := #[{ on := 0, ground := Ground.phase }, { on := 1, ground := Ground.phase }, { on := 2, ground := Ground.phase }, { on := 3, ground := Ground.phase }, { on := 4, ground := Ground.phase }, { on := 5, ground := Ground.phase }], guard := none }) (v := ?_) rfl (by kernel_rfl) (by kernel_rfl) (by kernel_rfl) (fun _ _ _ h => h) (Or.inl ⟨by rfl, ?_⟩) hH4 ?_
                        rotate_left
                        · intro w hSw; (try dsimp only at hSw); go_simp; (try with_reducible rfl)
                        simp only [Act.put, List.setIfInBounds_toArray, List.set_cons_zero, List.set_cons_succ]
                        refine wpAnyH_ready (rs := [7]) (by kernel_rfl) (by simp) ?_
                        refine AllReadyH.cons (o := { dst := none, op := Op.store 24 (Operand.tmp 34) (Operand.tmp 33), type := 0, pos := "l12_vat.go:33", after := #[{ on := 6, ground := Ground.data }, { on := 5, ground := Ground.data }, { on := 5, ground := Ground.chain }, { on := 0, ground := Ground.phase }, { on := 1, ground := Ground.phase }, { on := 2, ground := Ground.phase }, { on := 3, ground := Ground.phase }, { on := 4, ground := Ground.phase }, { on := 5, ground := Ground.phase }], guard := none }) rfl (fun K hK => ?_) ?_
                        · go_simp
                          refine hK.out _ _ ?_ (fun hH5 => ?_)
                          · exact trivial
                          clear hK K hH4
                          (try simp only [Act.put, List.setIfInBounds_toArray, List.set_cons_zero, List.set_cons_succ])
                          refine wpAnyH_done (by kernel_rfl) ?_ _
                          replace X : Hid (HeldZ w [(g7, [.int .i64 x, .slice Ab (i + 1 + 1) cb, .slice none 0 0, .slice A9 (i + 1) c9, .slice none 0 0]), (w.heap.size, [.int .i64 0, .slice none 0 0, .slice none 0 0, .slice none 0 0, .slice none 0 0])] (wb.setCell ⟨g7, 1, none⟩ (.slice Ab ((i + 1) + 1) cb))) := XS
                          replace VX := Lib.hid ((VX9.out.touch (w' := (wb.setCell ⟨g7, 1, none⟩ (.slice Ab ((i + 1) + 1) cb))) ((Touch.refl (fun b => b = g7) wb).setCell (p := ⟨g7, 1, none⟩) rfl _) (fun b hb e => by rcases hb with hb | hb; exact hb.2 e; (try simp only [World.size_drew] at hb); omega)).mono (P' := (fun b => w.heap.size + 1 ≤ b ∧ b ≠ g7)) (fun b hb => by rcases hb with hb | hb; exact hb; (try simp only [World.size_drew] at hb); exact ⟨by omega, by omega⟩))
                          clear XS VX9 XL X8 X9 HO HG HGB HGA HBK XD VXD
                          generalize (wb.setCell ⟨g7, 1, none⟩ (.slice Ab ((i + 1) + 1) cb)) = w11 at *
                          go_wp2_with fail
                          go_roundw
                          case rel => exact ⟨i + 1, Ab, cb, A9, c9, by omega, by go_num, X.out, by rw [take_mapI proxD HZ.out, take_mapI rootD HZ.out]; exact VX.out⟩
                          case measure => (simp [intOf]; try omega)
                        exact AllReadyH.nil
                      exact AllReadyH.nil
                    exact AllReadyH.nil
                  exact AllReadyH.nil
                refine AllReadyH.cons (o := { dst := some 31, op := Op.call { callee := Callee.value (Operand.func 58), args := #[Operand.tmp 30, Operand.const (Value.int IntKind.i64 1)], argTypes := #[3, 3] }, type := 38, pos := "l12_vat.go:33", after := #[{ on := 2, ground := Ground.data }], guard := none }) rfl (fun K hK => ?_) ?_
                · (go_simp; go_at_call 58; (with_reducible refine (implNewProx _ z 1).mono ?_); rintro e wa ⟨rfl, hb⟩; (have hs8 := hb.size); (try simp only [World.size_drew] at hs8); (have HO := Lib.hid (ownProx wa z wa.heap.size)); (have X8 := Lib.hid (XD.out.below hb)); (have XL := Lib.hid (X8.out.below ((Below.refl _ _).alloc (Nat.le_refl _) (.cells #[.int .i64 3, .int .i64 0, .slice none 0 0, .int .i64 0, .int .i64 0, .int .i64 0, .slice none 0 0, .slice none 0 0, .int .i64 z, .int .i64 1, .int .i64 1, .int .i64 0] 38)))); (obtain ⟨Bg, hg, hgB, hgA, hbk⟩ := VXD.out.app1 (hb.alloc hb.size (.cells #[.int .i64 3, .int .i64 0, .slice none 0 0, .int .i64 0, .int .i64 0, .int .i64 0, .slice none 0 0, .slice none 0 0, .int .i64 z, .int .i64 1, .int .i64 1, .int .i64 0] 38))); (have HG := Lib.hid hg); (have HGB := Lib.hid hgB); (have HGA := Lib.hid hgA); (have HBK := Lib.hid hbk); (have a1 := (X8.out.zx (g := g7) (cs := [.int .i64 x, .slice A1 (i + 1) c1, .slice none 0 0, .slice A9 (i + 1) c9, .slice none 0 0]) (by repeat (first | exact List.mem_cons_self | refine List.mem_cons_of_mem _ ?_))).d5.2.1); (have F8 := fun o9 => ((X8.out.zx (g := g7) (cs := [.int .i64 x, .slice A1 (i + 1) c1, .slice none 0 0, .slice A9 (i + 1) c9, .slice none 0 0]) (by repeat (first | exact List.mem_cons_self | refine List.mem_cons_of_mem _ ?_))).below ((Below.refl _ _).alloc (Nat.le_refl _) o9)).d5.2.1); clear hb hg hgB hgA hbk; (try (go_wp2_with fail)))
                  refine hK.out _ _ ?_ (fun hH6 => ?_)
                  · exact trivial
                  clear hK K hH0
                  (try simp only [Act.put, List.setIfInBounds_toArray, List.set_cons_zero, List.set_cons_succ])
                  refine wpAnyH_ready (rs := [1, 4]) (by kernel_rfl) (by simp) ?_
                  refine AllReadyH.cons (o := { dst := some 29, op := Op.load 24 (Operand.tmp 28), type := 24, pos := "l12_vat.go:33", after := #[{ on := 0, ground := Ground.data }], guard := none }) rfl (fun K hK => ?_) ?_
                  · go_simp
                    refine hK.out _ _ ?_ (fun hH7 => ?_)
                    · exact trivial
                    clear hK K hH6
                    (try simp only [Act.put, List.setIfInBounds_toArray, List.set_cons_zero, List.set_cons_succ])
                    refine wpAnyH_ready (rs := [4]) (by kernel_rfl) (by simp) ?_
                    refine AllReadyH.cons (o := { dst := some 32, op := Op.buildSlice 24 1 #[(0, Operand.tmp 31)], type := 24, pos := "l12_vat.go:33", after := #[{ on := 3, ground := Ground.data }], guard := none }) rfl (fun K hK => ?_) ?_
                    · go_simp
                      refine hK.out _ _ ?_ (fun hH8 => ?_)
                      · exact trivial
                      clear hK K hH7
                      (try simp only [Act.put, List.setIfInBounds_toArray, List.set_cons_zero, List.set_cons_succ])
                      refine wpAnyH_ready (rs := [5]) (by kernel_rfl) (by simp) ?_
                      refine AllReadyH.cons (o := { dst := some 33, op := Op.call { callee := Callee.builtin Builtin.append, args := #[Operand.tmp 29, Operand.tmp 32], argTypes := #[24, 24] }, type := 24, pos := "l12_vat.go:33", after := #[{ on := 1, ground := Ground.data }, { on := 4, ground := Ground.data }, { on := 3, ground := Ground.chain }], guard := none }) rfl (fun K hK => ?_) ?_
                      · (refine step_append_dat _ rfl _ _ 24 rfl 12 (by omega) 38 i1 _ 144 Try.underlying24 hj1 hx1 hy1 rfl hz1 0 A1 (i + 1) c1 (objD s :: (zs.take i).map proxD) Bg rfl HG.out (some ⟨wa.heap.size, 0, none⟩) 1 1 [proxD z] (rng wa.heap.size wa.heap.size) rfl (Src.lit rfl HO.out rfl (fun b hb => hb.2)) (fun b hb hb2 => by have h1 := (HGB.out b hb).2; have h2 := hb2.1; (try simp only [World.size_drew] at h1 h2 hs8); omega) (fun a e hb2 => by have h1 := (HGA.out a e).2; have h2 := hb2.1; (try simp only [World.size_drew] at h1 h2 hs8); omega) (by unfold maxLen; omega) (by omega) (Nat.zero_le _) ?_; intro Ab cb wb hG9 hT9 hA9; (have VX9 := Lib.hid (HBK.out wb Ab _ cb _ _ hG9 hT9 hA9 (fun b hb => by have h2 := hb.1; (try simp only [World.size_drew] at h2); (try simp only [World.size_drew]); omega))); (have X9 := Lib.hid (XL.out.touch hT9 (fun b ⟨a, e9, hb9⟩ => by have h1 := (HGA.out a e9).1.1; omega) (fun p hp ⟨a, e9, hb9⟩ => by have h1 := (HGA.out a e9).1.1; have h2 := (HGA.out a e9).1.2; simp only [List.mem_cons, List.not_mem_nil, or_false] at hp; rcases hp with rfl | rfl <;> (simp only at hb9) <;> omega))); clear hG9 hT9 hA9; (have XS := Lib.hid (X9.out.put (fun p hp => by simp only [List.mem_cons, List.not_mem_nil, or_false] at hp; rcases hp with rfl <;> (show (_ : Nat) ≠ _) <;> omega) 1 (.slice Ab ((i + 1) + 1) cb))); (obtain ⟨v0, v1, v2, v3, v4, fv⟩ := (X9.out.zx (g := g7) (cs := [.int .i64 x, .slice A1 (i + 1) c1, .slice none 0 0, .slice A9 (i + 1) c9, .slice none 0 0]) (by repeat (first | exact List.mem_cons_self | refine List.mem_cons_of_mem _ ?_))).d5))
                        refine hK.out _ _ ?_ (fun hH9 => ?_)
                        · exact trivial
                        clear hK K hH8
                        (try simp only [Act.put, List.setIfInBounds_toArray, List.set_cons_zero, List.set_cons_succ])
                        refine wpAnyH_take (i := 6) (oi := { dst := some 34, op := Op.fieldAddr 29 (Operand.tmp 7) 1, type := 0, pos := "l12_vat.go:33", after := #[{ on := 0, ground := Ground.phase }, { on := 1, ground := Ground.phase }, { on := 2, ground := Ground.phase }, { on := 3, ground := Ground.phase }, { on := 4, ground := Ground.phase }, { on := 5, ground := Ground.phase }], guard := none }) (v := ?_) rfl (by kernel_rfl) (by kernel_rfl) (by kernel_rfl) (fun _ _ _ h => h) (Or.inl ⟨by rfl, ?_⟩) hH9 ?_
                        rotate_left
                        · intro w hSw; (try dsimp only at hSw); go_simp; (try with_reducible rfl)
                        simp only [Act.put, List.setIfInBounds_toArray, List.set_cons_zero, List.set_cons_succ]
                        refine wpAnyH_ready (rs := [7]) (by kernel_rfl) (by simp) ?_
                        refine AllReadyH.cons (o := { dst := none, op := Op.store 24 (Operand.tmp 34) (Operand.tmp 33), type := 0, pos := "l12_vat.go:33", after := #[{ on := 6, ground := Ground.data }, { on := 5, ground := Ground.data }, { on := 5, ground := Ground.chain }, { on := 0, ground := Ground.phase }, { on := 1, ground := Ground.phase }, { on := 2, ground := Ground.phase }, { on := 3, ground := Ground.phase }, { on := 4, ground := Ground.phase }, { on := 5, ground := Ground.phase }], guard := none }) rfl (fun K hK => ?_) ?_
                        · go_simp
                          refine hK.out _ _ ?_ (fun hH10 => ?_)
                          · exact trivial
                          clear hK K hH9
                          (try simp only [Act.put, List.setIfInBounds_toArray, List.set_cons_zero, List.set_cons_succ])
                          refine wpAnyH_done (by kernel_rfl) ?_ _
                          replace X : Hid (HeldZ w [(g7, [.int .i64 x, .slice Ab (i + 1 + 1) cb, .slice none 0 0, .slice A9 (i + 1) c9, .slice none 0 0]), (w.heap.size, [.int .i64 0, .slice none 0 0, .slice none 0 0, .slice none 0 0, .slice none 0 0])] (wb.setCell ⟨g7, 1, none⟩ (.slice Ab ((i + 1) + 1) cb))) := XS
                          replace VX := Lib.hid ((VX9.out.touch (w' := (wb.setCell ⟨g7, 1, none⟩ (.slice Ab ((i + 1) + 1) cb))) ((Touch.refl (fun b => b = g7) wb).setCell (p := ⟨g7, 1, none⟩) rfl _) (fun b hb e => by rcases hb with hb | hb; exact hb.2 e; (try simp only [World.size_drew] at hb); omega)).mono (P' := (fun b => w.heap.size + 1 ≤ b ∧ b ≠ g7)) (fun b hb => by rcases hb with hb | hb; exact hb; (try simp only [World.size_drew] at hb); exact ⟨by omega, by omega⟩))
                          clear XS VX9 XL X8 X9 HO HG HGB HGA HBK XD VXD
                          generalize (wb.setCell ⟨g7, 1, none⟩ (.slice Ab ((i + 1) + 1) cb)) = w11 at *
                          go_wp2_with fail
                          go_roundw
                          case rel => exact ⟨i + 1, Ab, cb, A9, c9, by omega, by go_num, X.out, by rw [take_mapI proxD HZ.out, take_mapI rootD HZ.out]; exact VX.out⟩
                          case measure => (simp [intOf]; try omega)
                        exact AllReadyH.nil
                      exact AllReadyH.nil
                    exact AllReadyH.nil
                  refine AllReadyH.cons (o := { dst := some 32, op := Op.buildSlice 24 1 #[(0, Operand.tmp 31)], type := 24, pos := "l12_vat.go:33", after := #[{ on := 3, ground := Ground.data }], guard := none }) rfl (fun K hK => ?_) ?_
                  · go_simp
                    refine hK.out _ _ ?_ (fun hH11 => ?_)
                    · exact trivial
                    clear hK K hH6
                    (try simp only [Act.put, List.setIfInBounds_toArray, List.set_cons_zero, List.set_cons_succ])
                    refine wpAnyH_ready (rs := [1]) (by kernel_rfl) (by simp) ?_
                    refine AllReadyH.cons (o := { dst := some 29, op := Op.load 24 (Operand.tmp 28), type := 24, pos := "l12_vat.go:33", after := #[{ on := 0, ground := Ground.data }], guard := none }) rfl (fun K hK => ?_) ?_
                    · go_simp
                      refine hK.out _ _ ?_ (fun hH12 => ?_)
                      · exact trivial
                      clear hK K hH11
                      (try simp only [Act.put, List.setIfInBounds_toArray, List.set_cons_zero, List.set_cons_succ])
                      refine wpAnyH_ready (rs := [5]) (by kernel_rfl) (by simp) ?_
                      refine AllReadyH.cons (o := { dst := some 33, op := Op.call { callee := Callee.builtin Builtin.append, args := #[Operand.tmp 29, Operand.tmp 32], argTypes := #[24, 24] }, type := 24, pos := "l12_vat.go:33", after := #[{ on := 1, ground := Ground.data }, { on := 4, ground := Ground.data }, { on := 3, ground := Ground.chain }], guard := none }) rfl (fun K hK => ?_) ?_
                      · (refine step_append_dat _ rfl _ _ 24 rfl 12 (by omega) 38 i1 _ 144 Try.underlying24 hj1 hx1 hy1 rfl hz1 0 A1 (i + 1) c1 (objD s :: (zs.take i).map proxD) Bg rfl HG.out (some ⟨wa.heap.size, 0, none⟩) 1 1 [proxD z] (rng wa.heap.size wa.heap.size) rfl (Src.lit rfl HO.out rfl (fun b hb => hb.2)) (fun b hb hb2 => by have h1 := (HGB.out b hb).2; have h2 := hb2.1; (try simp only [World.size_drew] at h1 h2 hs8); omega) (fun a e hb2 => by have h1 := (HGA.out a e).2; have h2 := hb2.1; (try simp only [World.size_drew] at h1 h2 hs8); omega) (by unfold maxLen; omega) (by omega) (Nat.zero_le _) ?_; intro Ab cb wb hG9 hT9 hA9; (have VX9 := Lib.hid (HBK.out wb Ab _ cb _ _ hG9 hT9 hA9 (fun b hb => by have h2 := hb.1; (try simp only [World.size_drew] at h2); (try simp only [World.size_drew]); omega))); (have X9 := Lib.hid (XL.out.touch hT9 (fun b ⟨a, e9, hb9⟩ => by have h1 := (HGA.out a e9).1.1; omega) (fun p hp ⟨a, e9, hb9⟩ => by have h1 := (HGA.out a e9).1.1; have h2 := (HGA.out a e9).1.2; simp only [List.mem_cons, List.not_mem_nil, or_false] at hp; rcases hp with rfl | rfl <;> (simp only at hb9) <;> omega))); clear hG9 hT9 hA9; (have XS := Lib.hid (X9.out.put (fun p hp => by simp only [List.mem_cons, List.not_mem_nil, or_false] at hp; rcases hp with rfl <;> (show (_ : Nat) ≠ _) <;> omega) 1 (.slice Ab ((i + 1) + 1) cb))); (obtain ⟨v0, v1, v2, v3, v4, fv⟩ := (X9.out.zx (g := g7) (cs := [.int .i64 x, .slice A1 (i + 1) c1, .slice none 0 0, .slice A9 (i + 1) c9, .slice none 0 0]) (by repeat (first | exact List.mem_cons_self | refine List.mem_cons_of_mem _ ?_))).d5))
                        refine hK.out _ _ ?_ (fun hH13 => ?_)
                        · exact trivial
                        clear hK K hH12
                        (try simp only [Act.put, List.setIfInBounds_toArray, List.set_cons_zero, List.set_cons_succ])
                        refine wpAnyH_take (i := 6) (oi := { dst := some 34, op := Op.fieldAddr 29 (Operand.tmp 7) 1, type := 0, pos := "l12_vat.go:33", after := #[{ on := 0, ground := Ground.phase }, { on := 1, ground := Ground.phase }, { on := 2, ground := Ground.phase }, { on := 3, ground := Ground.phase }, { on := 4, ground := Ground.phase }, { on := 5, ground := Ground.phase }], guard := none }) (v := ?_) rfl (by kernel_rfl) (by kernel_rfl) (by kernel_rfl) (fun _ _ _ h => h) (Or.inl ⟨by rfl, ?_⟩) hH13 ?_
                        rotate_left
                        · intro w hSw; (try dsimp only at hSw); go_simp; (try with_reducible rfl)
                        simp only [Act.put, List.setIfInBounds_toArray, List.set_cons_zero, List.set_cons_succ]
                        refine wpAnyH_ready (rs := [7]) (by kernel_rfl) (by simp) ?_
                        refine AllReadyH.cons (o := { dst := none, op := Op.store 24 (Operand.tmp 34) (Operand.tmp 33), type := 0, pos := "l12_vat.go:33", after := #[{ on := 6, ground := Ground.data }, { on := 5, ground := Ground.data }, { on := 5, ground := Ground.chain }, { on := 0, ground := Ground.phase }, { on := 1, ground := Ground.phase }, { on := 2, ground := Ground.phase }, { on := 3, ground := Ground.phase }, { on := 4, ground := Ground.phase }, { on := 5, ground := Ground.phase }], guard := none }) rfl (fun K hK => ?_) ?_
                        · go_simp
                          refine hK.out _ _ ?_ (fun hH14 => ?_)
                          · exact trivial
                          clear hK K hH13
                          (try simp only [Act.put, List.setIfInBounds_toArray, List.set_cons_zero, List.set_cons_succ])
                          refine wpAnyH_done (by kernel_rfl) ?_ _
                          replace X : Hid (HeldZ w [(g7, [.int .i64 x, .slice Ab (i + 1 + 1) cb, .slice none 0 0, .slice A9 (i + 1) c9, .slice none 0 0]), (w.heap.size, [.int .i64 0, .slice none 0 0, .slice none 0 0, .slice none 0 0, .slice none 0 0])] (wb.setCell ⟨g7, 1, none⟩ (.slice Ab ((i + 1) + 1) cb))) := XS
                          replace VX := Lib.hid ((VX9.out.touch (w' := (wb.setCell ⟨g7, 1, none⟩ (.slice Ab ((i + 1) + 1) cb))) ((Touch.refl (fun b => b = g7) wb).setCell (p := ⟨g7, 1, none⟩) rfl _) (fun b hb e => by rcases hb with hb | hb; exact hb.2 e; (try simp only [World.size_drew] at hb); omega)).mono (P' := (fun b => w.heap.size + 1 ≤ b ∧ b ≠ g7)) (fun b hb => by rcases hb with hb | hb; exact hb; (try simp only [World.size_drew] at hb); exact ⟨by omega, by omega⟩))
                          clear XS VX9 XL X8 X9 HO HG HGB HGA HBK XD VXD
                          generalize (wb.setCell ⟨g7, 1, none⟩ (.slice Ab ((i + 1) + 1) cb)) = w11 at *
                          go_wp2_with fail
                          go_roundw
                          case rel => exact ⟨i + 1, Ab, cb, A9, c9, by omega, by go_num, X.out, by rw [take_mapI proxD HZ.out, take_mapI rootD HZ.out]; exact VX.out⟩
                          case measure => (simp [intOf]; try omega)
                        exact AllReadyH.nil
                      exact AllReadyH.nil
                    exact AllReadyH.nil
                  exact AllReadyH.nil
                exact AllReadyH.nil
              exact AllReadyH.nil
            exact AllReadyH.nil
          exact AllReadyH.nil
        refine AllReadyH.cons (o := { dst := some 25, op := Op.buildSlice 26 1 #[(0, Operand.tmp 24)], type := 26, pos := "l12_vat.go:32", after := #[{ on := 3, ground := Ground.data }], guard := none }) rfl (fun K hK => ?_) ?_
        · go_simp
          refine hK.out _ _ ?_ (fun hH11 => ?_)
          · exact trivial
          clear hK K hH6
          (try simp only [Act.put, List.setIfInBounds_toArray, List.set_cons_zero, List.set_cons_succ])
          refine wpAnyH_ready (rs := [1]) (by kernel_rfl) (by simp) ?_
          refine AllReadyH.cons (o := { dst := some 22, op := Op.load 26 (Operand.tmp 21), type := 26, pos := "l12_vat.go:32", after := #[{ on := 0, ground := Ground.data }], guard := none }) rfl (fun K hK => ?_) ?_
          · go_simp
            refine hK.out _ _ ?_ (fun hH12 => ?_)
            · exact trivial
            clear hK K hH11
            (try simp only [Act.put, List.setIfInBounds_toArray, List.set_cons_zero, List.set_cons_succ])
            refine wpAnyH_ready (rs := [5]) (by kernel_rfl) (by simp) ?_
            refine AllReadyH.cons (o := { dst := some 26, op := Op.call { callee := Callee.builtin Builtin.append, args := #[Operand.tmp 22, Operand.tmp 25], argTypes := #[26, 26] }, type := 26, pos := "l12_vat.go:32", after := #[{ on := 1, ground := Ground.data }, { on := 4, ground := Ground.data }, { on := 3, ground := Ground.chain }], guard := none }) rfl (fun K hK => ?_) ?_
            · (refine step_append_dat _ rfl _ _ 26 rfl 7 (by omega) 97 i3 _ 104 Try.underlying26 hj3 hx3 hy3 rfl hz3 0 A3 i c3 ((zs.take i).map rootD) Bg rfl HG.out (some ⟨w8.heap.size, 0, none⟩) 1 1 [rootD z] (rng wr.drew.heap.size w8.heap.size) rfl (Src.lit rfl HO.out rfl (fun b hb => hb.2)) (fun b hb hb2 => by have h1 := (HGB.out b hb).2; have h2 := hb2.1; (try simp only [World.size_drew] at h1 h2 hs8); omega) (fun a e hb2 => by have h1 := (HGA.out a e).2; have h2 := hb2.1; (try simp only [World.size_drew] at h1 h2 hs8); omega) (by unfold maxLen; omega) (by omega) (Nat.zero_le _) ?_; intro A9 c9 w9 hG9 hT9 hA9; (have VX9 := Lib.hid (HBK.out w9 A9 _ c9 _ _ hG9 hT9 hA9 (fun b hb => by have h2 := hb.1; (try simp only [World.size_drew] at h2); (try simp only [World.size_drew]); omega))); (have X9 := Lib.hid (XL.out.touch hT9 (fun b ⟨a, e9, hb9⟩ => by have h1 := (HGA.out a e9).1.1; omega) (fun p hp ⟨a, e9, hb9⟩ => by have h1 := (HGA.out a e9).1.1; have h2 := (HGA.out a e9).1.2; simp only [List.mem_cons, List.not_mem_nil, or_false] at hp; rcases hp with rfl | rfl <;> (simp only at hb9) <;> omega))); clear hG9 hT9 hA9; (have XS := Lib.hid (X9.out.put (fun p hp => by simp only [List.mem_cons, List.not_mem_nil, or_false] at hp; rcases hp with rfl <;> (show (_ : Nat) ≠ _) <;> omega) 3 (.slice A9 (i + 1) c9))); (obtain ⟨v0, v1, v2, v3, v4, fv⟩ := (X9.out.zx (g := g7) (cs := [.int .i64 x, .slice A1 (i + 1) c1, .slice none 0 0, .slice A3 i c3, .slice none 0 0]) (by repeat (first | exact List.mem_cons_self | refine List.mem_cons_of_mem _ ?_))).d5))
              refine hK.out _ _ ?_ (fun hH13 => ?_)
              · exact trivial
              clear hK K hH12
              (try simp only [Act.put, List.setIfInBounds_toArray, List.set_cons_zero, List.set_cons_succ])
              refine wpAnyH_take (i := 6) (oi := { dst := some 27, op := Op.fieldAddr 29 (Operand.tmp 7) 3, type := 0, pos := "l12_vat.go:32", after := #[{ on := 0, ground := Ground.phase }, { on := 1, ground := Ground.phase }, { on := 2, ground := Ground.phase }, { on := 3, ground := Ground.phase }, { on := 4, ground := Ground.phase }, { on := 5, ground := Ground.phase }], guard := none }) (v := ?_) rfl (by kernel_rfl) (by kernel_rfl) (by kernel_rfl) (fun _ _ _ h => h) (Or.inl ⟨by rfl, ?_⟩) hH13 ?_
              rotate_left
              · intro w hSw; (try dsimp only at hSw); go_simp; (try with_reducible rfl)
              simp only [Act.put, List.setIfInBounds_toArray, List.set_cons_zero, List.set_cons_succ]
              refine wpAnyH_ready (rs := [7]) (by kernel_rfl) (by simp) ?_
              refine AllReadyH.cons (o := { dst := none, op := Op.store 26 (Operand.tmp 27) (Operand.tmp 26), type := 0, pos := "l12_vat.go:32", after := #[{ on := 6, ground := Ground.data }, { on := 5, ground := Ground.data }, { on := 5, ground := Ground.chain }, { on := 0, ground := Ground.phase }, { on := 1, ground := Ground.phase }, { on := 2, ground := Ground.phase }, { on := 3, ground := Ground.phase }, { on := 4, ground := Ground.phase }, { on := 5, ground := Ground.phase }], guard := none }) rfl (fun K hK => ?_) ?_
              · go_simp
                refine hK.out _ _ ?_ (fun hH14 => ?_)
                · exact trivial
                clear hK K hH13
                (try simp only [Act.put, List.setIfInBounds_toArray, List.set_cons_zero, List.set_cons_succ])
                refine wpAnyH_done (by kernel_rfl) ?_ _
                replace X : Hid (HeldZ w [(g7, [.int .i64 x, .slice A1 (i + 1) c1, .slice none 0 0, .slice A9 (i + 1) c9, .slice none 0 0]), (w.heap.size, [.int .i64 0, .slice none 0 0, .slice none 0 0, .slice none 0 0, .slice none 0 0])] (w9.setCell ⟨g7, 3, none⟩ (.slice A9 (i + 1) c9))) := XS
                replace VX := Lib.hid ((VX9.out.touch (w' := (w9.setCell ⟨g7, 3, none⟩ (.slice A9 (i + 1) c9))) ((Touch.refl (fun b => b = g7) w9).setCell (p := ⟨g7, 3, none⟩) rfl _) (fun b hb e => by rcases hb with hb | hb; exact hb.2 e; (try simp only [World.size_drew] at hb); omega)).mono (P' := (fun b => w.heap.size + 1 ≤ b ∧ b ≠ g7)) (fun b hb => by rcases hb with hb | hb; exact hb; (try simp only [World.size_drew] at hb); exact ⟨by omega, by omega⟩))
                clear XS VX9 XL X8 X9 HO HG HGB HGA HBK XD VXD
                generalize (w9.setCell ⟨g7, 3, none⟩ (.slice A9 (i + 1) c9)) = w10 at *
                have hgb := (X.out.zx (g := g7) (cs := [.int .i64 x, .slice A1 (i + 1) c1, .slice none 0 0, .slice A9 (i + 1) c9, .slice none 0 0]) (by repeat (first | exact List.mem_cons_self | refine List.mem_cons_of_mem _ ?_))).lt
                obtain ⟨z0_0, z0_1, z0_2, z0_3, z0_4, z0f⟩ := (X.out.zx (g := g7) (cs := [.int .i64 x, .slice A1 (i + 1) c1, .slice none 0 0, .slice A9 (i + 1) c9, .slice none 0 0]) (by repeat (first | exact List.mem_cons_self | refine List.mem_cons_of_mem _ ?_))).d5
                obtain ⟨z1_0, z1_1, z1_2, z1_3, z1_4, z1f⟩ := (X.out.zx (g := w.heap.size) (cs := [.int .i64 0, .slice none 0 0, .slice none 0 0, .slice none 0 0, .slice none 0 0]) (by repeat (first | exact List.mem_cons_self | refine List.mem_cons_of_mem _ ?_))).d5
                go_wp2_with fail
                have XD := Lib.hid (X.out.below (Below.refl _ _).drew)
                have VXD := Lib.hid (VX.out.below (Below.refl _ _).drew)
                clear z0_0 z0_1 z0_2 z0_3 z0_4 z0f
                clear z1_0 z1_1 z1_2 z1_3 z1_4 z1f
                obtain ⟨y0_0, y0_1, y0_2, y0_3, y0_4, y0f⟩ := (XD.out.zx (g := g7) (cs := [.int .i64 x, .slice A1 (i + 1) c1, .slice none 0 0, .slice A9 (i + 1) c9, .slice none 0 0]) (by repeat (first | exact List.mem_cons_self | refine List.mem_cons_of_mem _ ?_))).d5
                obtain ⟨y1_0, y1_1, y1_2, y1_3, y1_4, y1f⟩ := (XD.out.zx (g := w.heap.size) (cs := [.int .i64 0, .slice none 0 0, .slice none 0 0, .slice none 0 0, .slice none 0 0]) (by repeat (first | exact List.mem_cons_self | refine List.mem_cons_of_mem _ ?_))).d5
                refine wp_region_held_drew (S := (fun _ => True)) (by kernel_rfl) ?_ (fun hH0 => ?_)
                · exact trivial
                refine wpAnyH_take (i := 0) (oi := { dst := some 28, op := Op.fieldAddr 29 (Operand.tmp 7) 1, type := 0, pos := "l12_vat.go:33", after := #[], guard := none }) (v := ?_) rfl (by kernel_rfl) (by kernel_rfl) (by kernel_rfl) (fun _ _ _ h => h) (Or.inl ⟨by rfl, ?_⟩) hH0 ?_
                rotate_left
                · intro w hSw; (try dsimp only at hSw); go_simp; (try with_reducible rfl)
                simp only [Act.put, List.setIfInBounds_toArray, List.set_cons_zero, List.set_cons_succ]
                refine wpAnyH_take (i := 2) (oi := { dst := some 30, op := Op.move (Operand.tmp 9), type := 3, pos := "l12_vat.go:33", after := #[], guard := none }) (v := ?_) rfl (by kernel_rfl) (by kernel_rfl) (by kernel_rfl) (fun _ _ _ h => h) (Or.inl ⟨by rfl, ?_⟩) hH0 ?_
                rotate_left
                · intro w hSw; (try dsimp only at hSw); go_simp; (try with_reducible rfl)
                simp only [Act.put, List.setIfInBounds_toArray, List.set_cons_zero, List.set_cons_succ]
                refine wpAnyH_ready (rs := [1, 3]) (by kernel_rfl) (by simp) ?_
                refine AllReadyH.cons (o := { dst := some 29, op := Op.load 24 (Operand.tmp 28), type := 24, pos := "l12_vat.go:33", after := #[{ on := 0, ground := Ground.data }], guard := none }) rfl (fun K hK => ?_) ?_
                · go_simp
                  refine hK.out _ _ ?_ (fun hH1 => ?_)
                  · exact trivial
                  clear hK K hH0
                  (try simp only [Act.put, List.setIfInBounds_toArray, List.set_cons_zero, List.set_cons_succ])
                  refine wpAnyH_ready (rs := [3]) (by kernel_rfl) (by simp) ?_
                  refine AllReadyH.cons (o := { dst := some 31, op := Op.call { callee := Callee.value (Operand.func 58), args := #[Operand.tmp 30, Operand.const (Value.int IntKind.i64 1)], argTypes := #[3, 3] }, type := 38, pos := "l12_vat.go:33", after := #[{ on := 2, ground := Ground.data }], guard := none }) rfl (fun K hK => ?_) ?_
                  · (go_simp; go_at_call 58; (with_reducible refine (implNewProx _ z 1).mono ?_); rintro e wa ⟨rfl, hb⟩; (have hs8 := hb.size); (try simp only [World.size_drew] at hs8); (have HO := Lib.hid (ownProx wa z wa.heap.size)); (have X8 := Lib.hid (XD.out.below hb)); (have XL := Lib.hid (X8.out.below ((Below.refl _ _).alloc (Nat.le_refl _) (.cells #[.int .i64 3, .int .i64 0, .slice none 0 0, .int .i64 0, .int .i64 0, .int .i64 0, .slice none 0 0, .slice none 0 0, .int .i64 z, .int .i64 1, .int .i64 1, .int .i64 0] 38)))); (obtain ⟨Bg, hg, hgB, hgA, hbk⟩ := VXD.out.app1 (hb.alloc hb.size (.cells #[.int .i64 3, .int .i64 0, .slice none 0 0, .int .i64 0, .int .i64 0, .int .i64 0, .slice none 0 0, .slice none 0 0, .int .i64 z, .int .i64 1, .int .i64 1, .int .i64 0] 38))); (have HG := Lib.hid hg); (have HGB := Lib.hid hgB); (have HGA := Lib.hid hgA); (have HBK := Lib.hid hbk); (have a1 := (X8.out.zx (g := g7) (cs := [.int .i64 x, .slice A1 (i + 1) c1, .slice none 0 0, .slice A9 (i + 1) c9, .slice none 0 0]) (by repeat (first | exact List.mem_cons_self | refine List.mem_cons_of_mem _ ?_))).d5.2.1); (have F8 := fun o9 => ((X8.out.zx (g := g7) (cs := [.int .i64 x, .slice A1 (i + 1) c1, .slice none 0 0, .slice A9 (i + 1) c9, .slice none 0 0]) (by repeat (first | exact List.mem_cons_self | refine List.mem_cons_of_mem _ ?_))).below ((Below.refl _ _).alloc (Nat.le_refl _) o9)).d5.2.1); clear hb hg hgB hgA hbk; (try (go_wp2_with fail)))
                    refine hK.out _ _ ?_ (fun hH2 => ?_)
                    · exact trivial
                    clear hK K hH1
                    (try simp only [Act.put, List.setIfInBounds_toArray, List.set_cons_zero, List.set_cons_succ])
                    refine wpAnyH_ready (rs := [4]) (by kernel_rfl) (by simp) ?_
                    refine AllReadyH.cons (o := { dst := some 32, op := Op.buildSlice 24 1 #[(0, Operand.tmp 31)], type := 24, pos := "l12_vat.go:33", after := #[{ on := 3, ground := Ground.data }], guard := none }) rfl (fun K hK => ?_) ?_
                    · go_simp
                      refine hK.out _ _ ?_ (fun hH3 => ?_)
                      · exact trivial
                      clear hK K hH2
                      (try simp only [Act.put, List.setIfInBounds_toArray, List.set_cons_zero, List.set_cons_succ])
                      refine wpAnyH_ready (rs := [5]) (by kernel_rfl) (by simp) ?_
                      refine AllReadyH.cons (o := { dst := some 33, op := Op.call { callee := Callee.builtin Builtin.append, args := #[Operand.tmp 29, Operand.tmp 32], argTypes := #[24, 24] }, type := 24, pos := "l12_vat.go:33", after := #[{ on := 1, ground := Ground.data }, { on := 4, ground := Ground.data }, { on := 3, ground := Ground.chain }], guard := none }) rfl (fun K hK => ?_) ?_
                      · (refine step_append_dat _ rfl _ _ 24 rfl 12 (by omega) 38 i1 _ 144 Try.underlying24 hj1 hx1 hy1 rfl hz1 0 A1 (i + 1) c1 (objD s :: (zs.take i).map proxD) Bg rfl HG.out (some ⟨wa.heap.size, 0, none⟩) 1 1 [proxD z] (rng wa.heap.size wa.heap.size) rfl (Src.lit rfl HO.out rfl (fun b hb => hb.2)) (fun b hb hb2 => by have h1 := (HGB.out b hb).2; have h2 := hb2.1; (try simp only [World.size_drew] at h1 h2 hs8); omega) (fun a e hb2 => by have h1 := (HGA.out a e).2; have h2 := hb2.1; (try simp only [World.size_drew] at h1 h2 hs8); omega) (by unfold maxLen; omega) (by omega) (Nat.zero_le _) ?_; intro Ab cb wb hG9 hT9 hA9; (have VX9 := Lib.hid (HBK.out wb Ab _ cb _ _ hG9 hT9 hA9 (fun b hb => by have h2 := hb.1; (try simp only [World.size_drew] at h2); (try simp only [World.size_drew]); omega))); (have X9 := Lib.hid (XL.out.touch hT9 (fun b ⟨a, e9, hb9⟩ => by have h1 := (HGA.out a e9).1.1; omega) (fun p hp ⟨a, e9, hb9⟩ => by have h1 := (HGA.out a e9).1.1; have h2 := (HGA.out a e9).1.2; simp only [List.mem_cons, List.not_mem_nil, or_false] at hp; rcases hp with rfl | rfl <;> (simp only at hb9) <;> omega))); clear hG9 hT9 hA9; (have XS := Lib.hid (X9.out.put (fun p hp => by simp only [List.mem_cons, List.not_mem_nil, or_false] at hp; rcases hp with rfl <;> (show (_ : Nat) ≠ _) <;> omega) 1 (.slice Ab ((i + 1) + 1) cb))); (obtain ⟨v0, v1, v2, v3, v4, fv⟩ := (X9.out.zx (g := g7) (cs := [.int .i64 x, .slice A1 (i + 1) c1, .slice none 0 0, .slice A9 (i + 1) c9, .slice none 0 0]) (by repeat (first | exact List.mem_cons_self | refine List.mem_cons_of_mem _ ?_))).d5))
                        refine hK.out _ _ ?_ (fun hH4 => ?_)
                        · exact trivial
                        clear hK K hH3
                        (try simp only [Act.put, List.setIfInBounds_toArray, List.set_cons_zero, List.set_cons_succ])
                        refine wpAnyH_take (i := 6) (oi := { dst := some 34, op := Op.fieldAddr 29 (Operand.tmp 7) 1, type := 0, pos := "l12_vat.go:33", after := #[{ on := 0, ground := Ground.phase }, { on := 1, ground := Ground.phase }, { on := 2, ground := Ground.phase }, { on := 3, ground := Ground.phase }, { on := 4, ground := Ground.phase }, { on := 5, ground := Ground.phase }], guard := none }) (v := ?_) rfl (by kernel_rfl) (by kernel_rfl) (by kernel_rfl) (fun _ _ _ h => h) (Or.inl ⟨by rfl, ?_⟩) hH4 ?_
                        rotate_left
                        · intro w hSw; (try dsimp only at hSw); go_simp; (try with_reducible rfl)
                        simp only [Act.put, List.setIfInBounds_toArray, List.set_cons_zero, List.set_cons_succ]
                        refine wpAnyH_ready (rs := [7]) (by kernel_rfl) (by simp) ?_
                        refine AllReadyH.cons (o := { dst := none, op := Op.store 24 (Operand.tmp 34) (Operand.tmp 33), type := 0, pos := "l12_vat.go:33", after := #[{ on := 6, ground := Ground.data }, { on := 5, ground := Ground.data }, { on := 5, ground := Ground.chain }, { on := 0, ground := Ground.phase }, { on := 1, ground := Ground.phase }, { on := 2, ground := Ground.phase }, { on := 3, ground := Ground.phase }, { on := 4, ground := Ground.phase }, { on := 5, ground := Ground.phase }], guard := none }) rfl (fun K hK => ?_) ?_
                        · go_simp
                          refine hK.out _ _ ?_ (fun hH5 => ?_)
                          · exact trivial
                          clear hK K hH4
                          (try simp only [Act.put, List.setIfInBounds_toArray, List.set_cons_zero, List.set_cons_succ])
                          refine wpAnyH_done (by kernel_rfl) ?_ _
                          replace X : Hid (HeldZ w [(g7, [.int .i64 x, .slice Ab (i + 1 + 1) cb, .slice none 0 0, .slice A9 (i + 1) c9, .slice none 0 0]), (w.heap.size, [.int .i64 0, .slice none 0 0, .slice none 0 0, .slice none 0 0, .slice none 0 0])] (wb.setCell ⟨g7, 1, none⟩ (.slice Ab ((i + 1) + 1) cb))) := XS
                          replace VX := Lib.hid ((VX9.out.touch (w' := (wb.setCell ⟨g7, 1, none⟩ (.slice Ab ((i + 1) + 1) cb))) ((Touch.refl (fun b => b = g7) wb).setCell (p := ⟨g7, 1, none⟩) rfl _) (fun b hb e => by rcases hb with hb | hb; exact hb.2 e; (try simp only [World.size_drew] at hb); omega)).mono (P' := (fun b => w.heap.size + 1 ≤ b ∧ b ≠ g7)) (fun b hb => by rcases hb with hb | hb; exact hb; (try simp only [World.size_drew] at hb); exact ⟨by omega, by omega⟩))
                          clear XS VX9 XL X8 X9 HO HG HGB HGA HBK XD VXD
                          generalize (wb.setCell ⟨g7, 1, none⟩ (.slice Ab ((i + 1) + 1) cb)) = w11 at *
                          go_wp2_with fail
                          go_roundw
                          case rel => exact ⟨i + 1, Ab, cb, A9, c9, by omega, by go_num, X.out, by rw [take_mapI proxD HZ.out, take_mapI rootD HZ.out]; exact VX.out⟩
                          case measure => (simp [intOf]; try omega)
                        exact AllReadyH.nil
                      exact AllReadyH.nil
                    exact AllReadyH.nil
                  exact AllReadyH.nil
                refine AllReadyH.cons (o := { dst := some 31, op := Op.call { callee := Callee.value (Operand.func 58), args := #[Operand.tmp 30, Operand.const (Value.int IntKind.i64 1)], argTypes := #[3, 3] }, type := 38, pos := "l12_vat.go:33", after := #[{ on := 2, ground := Ground.data }], guard := none }) rfl (fun K hK => ?_) ?_
                · (go_simp; go_at_call 58; (with_reducible refine (implNewProx _ z 1).mono ?_); rintro e wa ⟨rfl, hb⟩; (have hs8 := hb.size); (try simp only [World.size_drew] at hs8); (have HO := Lib.hid (ownProx wa z wa.heap.size)); (have X8 := Lib.hid (XD.out.below hb)); (have XL := Lib.hid (X8.out.below ((Below.refl _ _).alloc (Nat.le_refl _) (.cells #[.int .i64 3, .int .i64 0, .slice none 0 0, .int .i64 0, .int .i64 0, .int .i64 0, .slice none 0 0, .slice none 0 0, .int .i64 z, .int .i64 1, .int .i64 1, .int .i64 0] 38)))); (obtain ⟨Bg, hg, hgB, hgA, hbk⟩ := VXD.out.app1 (hb.alloc hb.size (.cells #[.int .i64 3, .int .i64 0, .slice none 0 0, .int .i64 0, .int .i64 0, .int .i64 0, .slice none 0 0, .slice none 0 0, .int .i64 z, .int .i64 1, .int .i64 1, .int .i64 0] 38))); (have HG := Lib.hid hg); (have HGB := Lib.hid hgB); (have HGA := Lib.hid hgA); (have HBK := Lib.hid hbk); (have a1 := (X8.out.zx (g := g7) (cs := [.int .i64 x, .slice A1 (i + 1) c1, .slice none 0 0, .slice A9 (i + 1) c9, .slice none 0 0]) (by repeat (first | exact List.mem_cons_self | refine List.mem_cons_of_mem _ ?_))).d5.2.1); (have F8 := fun o9 => ((X8.out.zx (g := g7) (cs := [.int .i64 x, .slice A1 (i + 1) c1, .slice none 0 0, .slice A9 (i + 1) c9, .slice none 0 0]) (by repeat (first | exact List.mem_cons_self | refine List.mem_cons_of_mem _ ?_))).below ((Below.refl _ _).alloc (Nat.le_refl _) o9)).d5.2.1); clear hb hg hgB hgA hbk; (try (go_wp2_with fail)))
                  refine hK.out _ _ ?_ (fun hH6 => ?_)
                  · exact trivial
                  clear hK K hH0
                  (try simp only [Act.put, List.setIfInBounds_toArray, List.set_cons_zero, List.set_cons_succ])
                  refine wpAnyH_ready (rs := [1, 4]) (by kernel_rfl) (by simp) ?_
                  refine AllReadyH.cons (o := { dst := some 29, op := Op.load 24 (Operand.tmp 28), type := 24, pos := "l12_vat.go:33", after := #[{ on := 0, ground := Ground.data }], guard := none }) rfl (fun K hK => ?_) ?_
                  · go_simp
                    refine hK.out _ _ ?_ (fun hH7 => ?_)
                    · exact trivial
                    clear hK K hH6
                    (try simp only [Act.put, List.setIfInBounds_toArray, List.set_cons_zero, List.set_cons_succ])
                    refine wpAnyH_ready (rs := [4]) (by kernel_rfl) (by simp) ?_
                    refine AllReadyH.cons (o := { dst := some 32, op := Op.buildSlice 24 1 #[(0, Operand.tmp 31)], type := 24, pos := "l12_vat.go:33", after := #[{ on := 3, ground := Ground.data }], guard := none }) rfl (fun K hK => ?_) ?_
                    · go_simp
                      refine hK.out _ _ ?_ (fun hH8 => ?_)
                      · exact trivial
                      clear hK K hH7
                      (try simp only [Act.put, List.setIfInBounds_toArray, List.set_cons_zero, List.set_cons_succ])
                      refine wpAnyH_ready (rs := [5]) (by kernel_rfl) (by simp) ?_
                      refine AllReadyH.cons (o := { dst := some 33, op := Op.call { callee := Callee.builtin Builtin.append, args := #[Operand.tmp 29, Operand.tmp 32], argTypes := #[24, 24] }, type := 24, pos := "l12_vat.go:33", after := #[{ on := 1, ground := Ground.data }, { on := 4, ground := Ground.data }, { on := 3, ground := Ground.chain }], guard := none }) rfl (fun K hK => ?_) ?_
                      · (refine step_append_dat _ rfl _ _ 24 rfl 12 (by omega) 38 i1 _ 144 Try.underlying24 hj1 hx1 hy1 rfl hz1 0 A1 (i + 1) c1 (objD s :: (zs.take i).map proxD) Bg rfl HG.out (some ⟨wa.heap.size, 0, none⟩) 1 1 [proxD z] (rng wa.heap.size wa.heap.size) rfl (Src.lit rfl HO.out rfl (fun b hb => hb.2)) (fun b hb hb2 => by have h1 := (HGB.out b hb).2; have h2 := hb2.1; (try simp only [World.size_drew] at h1 h2 hs8); omega) (fun a e hb2 => by have h1 := (HGA.out a e).2; have h2 := hb2.1; (try simp only [World.size_drew] at h1 h2 hs8); omega) (by unfold maxLen; omega) (by omega) (Nat.zero_le _) ?_; intro Ab cb wb hG9 hT9 hA9; (have VX9 := Lib.hid (HBK.out wb Ab _ cb _ _ hG9 hT9 hA9 (fun b hb => by have h2 := hb.1; (try simp only [World.size_drew] at h2); (try simp only [World.size_drew]); omega))); (have X9 := Lib.hid (XL.out.touch hT9 (fun b ⟨a, e9, hb9⟩ => by have h1 := (HGA.out a e9).1.1; omega) (fun p hp ⟨a, e9, hb9⟩ => by have h1 := (HGA.out a e9).1.1; have h2 := (HGA.out a e9).1.2; simp only [List.mem_cons, List.not_mem_nil, or_false] at hp; rcases hp with rfl | rfl <;> (simp only at hb9) <;> omega))); clear hG9 hT9 hA9; (have XS := Lib.hid (X9.out.put (fun p hp => by simp only [List.mem_cons, List.not_mem_nil, or_false] at hp; rcases hp with rfl <;> (show (_ : Nat) ≠ _) <;> omega) 1 (.slice Ab ((i + 1) + 1) cb))); (obtain ⟨v0, v1, v2, v3, v4, fv⟩ := (X9.out.zx (g := g7) (cs := [.int .i64 x, .slice A1 (i + 1) c1, .slice none 0 0, .slice A9 (i + 1) c9, .slice none 0 0]) (by repeat (first | exact List.mem_cons_self | refine List.mem_cons_of_mem _ ?_))).d5))
                        refine hK.out _ _ ?_ (fun hH9 => ?_)
                        · exact trivial
                        clear hK K hH8
                        (try simp only [Act.put, List.setIfInBounds_toArray, List.set_cons_zero, List.set_cons_succ])
                        refine wpAnyH_take (i := 6) (oi := { dst := some 34, op := Op.fieldAddr 29 (Operand.tmp 7) 1, type := 0, pos := "l12_vat.go:33", after := #[{ on := 0, ground := Ground.phase }, { on := 1, ground := Ground.phase }, { on := 2, ground := Ground.phase }, { on := 3, ground := Ground.phase }, { on := 4, ground := Ground.phase }, { on := 5, ground := Ground.phase }], guard := none }) (v := ?_) rfl (by kernel_rfl) (by kernel_rfl) (by kernel_rfl) (fun _ _ _ h => h) (Or.inl ⟨by rfl, ?_⟩) hH9 ?_
                        rotate_left
                        · intro w hSw; (try dsimp only at hSw); go_simp; (try with_reducible rfl)
                        simp only [Act.put, List.setIfInBounds_toArray, List.set_cons_zero, List.set_cons_succ]
                        refine wpAnyH_ready (rs := [7]) (by kernel_rfl) (by simp) ?_
                        refine AllReadyH.cons (o := { dst := none, op := Op.store 24 (Operand.tmp 34) (Operand.tmp 33), type := 0, pos := "l12_vat.go:33", after := #[{ on := 6, ground := Ground.data }, { on := 5, ground := Ground.data }, { on := 5, ground := Ground.chain }, { on := 0, ground := Ground.phase }, { on := 1, ground := Ground.phase }, { on := 2, ground := Ground.phase }, { on := 3, ground := Ground.phase }, { on := 4, ground := Ground.phase }, { on := 5, ground := Ground.phase }], guard := none }) rfl (fun K hK => ?_) ?_
                        · go_simp
                          refine hK.out _ _ ?_ (fun hH10 => ?_)
                          · exact trivial
                          clear hK K hH9
                          (try simp only [Act.put, List.setIfInBounds_toArray, List.set_cons_zero, List.set_cons_succ])
                          refine wpAnyH_done (by kernel_rfl) ?_ _
                          replace X : Hid (HeldZ w [(g7, [.int .i64 x, .slice Ab (i + 1 + 1) cb, .slice none 0 0, .slice A9 (i + 1) c9, .slice none 0 0]), (w.heap.size, [.int .i64 0, .slice none 0 0, .slice none 0 0, .slice none 0 0, .slice none 0 0])] (wb.setCell ⟨g7, 1, none⟩ (.slice Ab ((i + 1) + 1) cb))) := XS
                          replace VX := Lib.hid ((VX9.out.touch (w' := (wb.setCell ⟨g7, 1, none⟩ (.slice Ab ((i + 1) + 1) cb))) ((Touch.refl (fun b => b = g7) wb).setCell (p := ⟨g7, 1, none⟩) rfl _) (fun b hb e => by rcases hb with hb | hb; exact hb.2 e; (try simp only [World.size_drew] at hb); omega)).mono (P' := (fun b => w.heap.size + 1 ≤ b ∧ b ≠ g7)) (fun b hb => by rcases hb with hb | hb; exact hb; (try simp only [World.size_drew] at hb); exact ⟨by omega, by omega⟩))
                          clear XS VX9 XL X8 X9 HO HG HGB HGA HBK XD VXD
                          generalize (wb.setCell ⟨g7, 1, none⟩ (.slice Ab ((i + 1) + 1) cb)) = w11 at *
                          go_wp2_with fail
                          go_roundw
                          case rel => exact ⟨i + 1, Ab, cb, A9, c9, by omega, by go_num, X.out, by rw [take_mapI proxD HZ.out, take_mapI rootD HZ.out]; exact VX.out⟩
                          case measure => (simp [intOf]; try omega)
                        exact AllReadyH.nil
                      exact AllReadyH.nil
                    exact AllReadyH.nil
                  refine AllReadyH.cons (o := { dst := some 32, op := Op.buildSlice 24 1 #[(0, Operand.tmp 31)], type := 24, pos := "l12_vat.go:33", after := #[{ on := 3, ground := Ground.data }], guard := none }) rfl (fun K hK => ?_) ?_
                  · go_simp
                    refine hK.out _ _ ?_ (fun hH11 => ?_)
                    · exact trivial
                    clear hK K hH6
                    (try simp only [Act.put, List.setIfInBounds_toArray, List.set_cons_zero, List.set_cons_succ])
                    refine wpAnyH_ready (rs := [1]) (by kernel_rfl) (by simp) ?_
                    refine AllReadyH.cons (o := { dst := some 29, op := Op.load 24 (Operand.tmp 28), type := 24, pos := "l12_vat.go:33", after := #[{ on := 0, ground := Ground.data }], guard := none }) rfl (fun K hK => ?_) ?_
                    · go_simp
                      refine hK.out _ _ ?_ (fun hH12 => ?_)
                      · exact trivial
                      clear hK K hH11
                      (try simp only [Act.put, List.setIfInBounds_toArray, List.set_cons_zero, List.set_cons_succ])
                      refine wpAnyH_ready (rs := [5]) (by kernel_rfl) (by simp) ?_
                      refine AllReadyH.cons (o := { dst := some 33, op := Op.call { callee := Callee.builtin Builtin.append, args := #[Operand.tmp 29, Operand.tmp 32], argTypes := #[24, 24] }, type := 24, pos := "l12_vat.go:33", after := #[{ on := 1, ground := Ground.data }, { on := 4, ground := Ground.data }, { on := 3, ground := Ground.chain }], guard := none }) rfl (fun K hK => ?_) ?_
                      · (refine step_append_dat _ rfl _ _ 24 rfl 12 (by omega) 38 i1 _ 144 Try.underlying24 hj1 hx1 hy1 rfl hz1 0 A1 (i + 1) c1 (objD s :: (zs.take i).map proxD) Bg rfl HG.out (some ⟨wa.heap.size, 0, none⟩) 1 1 [proxD z] (rng wa.heap.size wa.heap.size) rfl (Src.lit rfl HO.out rfl (fun b hb => hb.2)) (fun b hb hb2 => by have h1 := (HGB.out b hb).2; have h2 := hb2.1; (try simp only [World.size_drew] at h1 h2 hs8); omega) (fun a e hb2 => by have h1 := (HGA.out a e).2; have h2 := hb2.1; (try simp only [World.size_drew] at h1 h2 hs8); omega) (by unfold maxLen; omega) (by omega) (Nat.zero_le _) ?_; intro Ab cb wb hG9 hT9 hA9; (have VX9 := Lib.hid (HBK.out wb Ab _ cb _ _ hG9 hT9 hA9 (fun b hb => by have h2 := hb.1; (try simp only [World.size_drew] at h2); (try simp only [World.size_drew]); omega))); (have X9 := Lib.hid (XL.out.touch hT9 (fun b ⟨a, e9, hb9⟩ => by have h1 := (HGA.out a e9).1.1; omega) (fun p hp ⟨a, e9, hb9⟩ => by have h1 := (HGA.out a e9).1.1; have h2 := (HGA.out a e9).1.2; simp only [List.mem_cons, List.not_mem_nil, or_false] at hp; rcases hp with rfl | rfl <;> (simp only at hb9) <;> omega))); clear hG9 hT9 hA9; (have XS := Lib.hid (X9.out.put (fun p hp => by simp only [List.mem_cons, List.not_mem_nil, or_false] at hp; rcases hp with rfl <;> (show (_ : Nat) ≠ _) <;> omega) 1 (.slice Ab ((i + 1) + 1) cb))); (obtain ⟨v0, v1, v2, v3, v4, fv⟩ := (X9.out.zx (g := g7) (cs := [.int .i64 x, .slice A1 (i + 1) c1, .slice none 0 0, .slice A9 (i + 1) c9, .slice none 0 0]) (by repeat (first | exact List.mem_cons_self | refine List.mem_cons_of_mem _ ?_))).d5))
                        refine hK.out _ _ ?_ (fun hH13 => ?_)
                        · exact trivial
                        clear hK K hH12
                        (try simp only [Act.put, List.setIfInBounds_toArray, List.set_cons_zero, List.set_cons_succ])
                        refine wpAnyH_take (i := 6) (oi := { dst := some 34, op := Op.fieldAddr 29 (Operand.tmp 7) 1, type := 0, pos := "l12_vat.go:33", after := #[{ on := 0, ground := Ground.phase }, { on := 1, ground := Ground.phase }, { on := 2, ground := Ground.phase }, { on := 3, ground := Ground.phase }, { on := 4, ground := Ground.phase }, { on := 5, ground := Ground.phase }], guard := none }) (v := ?_) rfl (by kernel_rfl) (by kernel_rfl) (by kernel_rfl) (fun _ _ _ h => h) (Or.inl ⟨by rfl, ?_⟩) hH13 ?_
                        rotate_left
                        · intro w hSw; (try dsimp only at hSw); go_simp; (try with_reducible rfl)
                        simp only [Act.put, List.setIfInBounds_toArray, List.set_cons_zero, List.set_cons_succ]
                        refine wpAnyH_ready (rs := [7]) (by kernel_rfl) (by simp) ?_
                        refine AllReadyH.cons (o := { dst := none, op := Op.store 24 (Operand.tmp 34) (Operand.tmp 33), type := 0, pos := "l12_vat.go:33", after := #[{ on := 6, ground := Ground.data }, { on := 5, ground := Ground.data }, { on := 5, ground := Ground.chain }, { on := 0, ground := Ground.phase }, { on := 1, ground := Ground.phase }, { on := 2, ground := Ground.phase }, { on := 3, ground := Ground.phase }, { on := 4, ground := Ground.phase }, { on := 5, ground := Ground.phase }], guard := none }) rfl (fun K hK => ?_) ?_
                        · go_simp
                          refine hK.out _ _ ?_ (fun hH14 => ?_)
                          · exact trivial
                          clear hK K hH13
                          (try simp only [Act.put, List.setIfInBounds_toArray, List.set_cons_zero, List.set_cons_succ])
                          refine wpAnyH_done (by kernel_rfl) ?_ _
                          replace X : Hid (HeldZ w [(g7, [.int .i64 x, .slice Ab (i + 1 + 1) cb, .slice none 0 0, .slice A9 (i + 1) c9, .slice none 0 0]), (w.heap.size, [.int .i64 0, .slice none 0 0, .slice none 0 0, .slice none 0 0, .slice none 0 0])] (wb.setCell ⟨g7, 1, none⟩ (.slice Ab ((i + 1) + 1) cb))) := XS
                          replace VX := Lib.hid ((VX9.out.touch (w' := (wb.setCell ⟨g7, 1, none⟩ (.slice Ab ((i + 1) + 1) cb))) ((Touch.refl (fun b => b = g7) wb).setCell (p := ⟨g7, 1, none⟩) rfl _) (fun b hb e => by rcases hb with hb | hb; exact hb.2 e; (try simp only [World.size_drew] at hb); omega)).mono (P' := (fun b => w.heap.size + 1 ≤ b ∧ b ≠ g7)) (fun b hb => by rcases hb with hb | hb; exact hb; (try simp only [World.size_drew] at hb); exact ⟨by omega, by omega⟩))
                          clear XS VX9 XL X8 X9 HO HG HGB HGA HBK XD VXD
                          generalize (wb.setCell ⟨g7, 1, none⟩ (.slice Ab ((i + 1) + 1) cb)) = w11 at *
                          go_wp2_with fail
                          go_roundw
                          case rel => exact ⟨i + 1, Ab, cb, A9, c9, by omega, by go_num, X.out, by rw [take_mapI proxD HZ.out, take_mapI rootD HZ.out]; exact VX.out⟩
                          case measure => (simp [intOf]; try omega)
                        exact AllReadyH.nil
                      exact AllReadyH.nil
                    exact AllReadyH.nil
                  exact AllReadyH.nil
                exact AllReadyH.nil
              exact AllReadyH.nil
            exact AllReadyH.nil
          exact AllReadyH.nil
        exact AllReadyH.nil
      exact AllReadyH.nil
    · obtain rfl : n = i := by omega
      have VX2 : Hid (VatX (fun b => w.heap.size + 1 ≤ b ∧ b ≠ g7) wr (objD s :: zs.map proxD) A1 (n + 1) c1 [] none 0 0 (zs.map rootD) A3 n c3 [] none 0 0) := Lib.hid (by have h1 := VX.out; rw [List.take_of_length_le (by rw [HR.out.1]; exact Nat.le_refl _)] at h1; exact h1)
      obtain ⟨z0_0, z0_1, z0_2, z0_3, z0_4, z0f⟩ := (X.out.zx (g := g7) (cs := [.int .i64 x, .slice A1 (n + 1) c1, .slice none 0 0, .slice A3 n c3, .slice none 0 0]) (by repeat (first | exact List.mem_cons_self | refine List.mem_cons_of_mem _ ?_))).d5
      obtain ⟨z1_0, z1_1, z1_2, z1_3, z1_4, z1f⟩ := (X.out.zx (g := w.heap.size) (cs := [.int .i64 0, .slice none 0 0, .slice none 0 0, .slice none 0 0, .slice none 0 0]) (by repeat (first | exact List.mem_cons_self | refine List.mem_cons_of_mem _ ?_))).d5
      go_wp2_with fail
      refine bodyPost_ret (v := .agg #[.int .i64 x, .slice A1 (n + 1) c1, .slice none 0 0, .slice A3 n c3, .slice none 0 0]) ?hres rfl ?hpost
      case hres => exact results_box rfl _ _ (w.heap.size) [.int .i64 x, .slice A1 (n + 1) c1, .slice none 0 0, .slice A3 n c3, .slice none 0 0] _ rfl (((((((X.out.zx (g := w.heap.size) (cs := [.int .i64 0, .slice none 0 0, .slice none 0 0, .slice none 0 0, .slice none 0 0]) (by repeat (first | exact List.mem_cons_self | refine List.mem_cons_of_mem _ ?_))).1).put 0 _).put 1 _).put 2 _).put 3 _).put 4 _) Try.underlying29 rfl (by kernel_rfl)
      case hpost =>
        suffices h9 : ∀ w' : World, Touch (fun b => b = w.heap.size) wr w' → GivesVt x (objD s :: zs.map proxD) (n + 1) [] 0 (zs.map rootD) n [] 0 w (.returned (.agg #[.int .i64 x, .slice A1 (n + 1) c1, .slice none 0 0, .slice A3 n c3, .slice none 0 0])) w' from h9 _ ((((((Touch.refl (fun b => b = w.heap.size) wr).setCell (p := ⟨w.heap.size, 0, none⟩) rfl _).setCell (p := ⟨w.heap.size, 1, none⟩) rfl _).setCell (p := ⟨w.heap.size, 2, none⟩) rfl _).setCell (p := ⟨w.heap.size, 3, none⟩) rfl _).setCell (p := ⟨w.heap.size, 4, none⟩) rfl _)
        intro w' hT
        exact ⟨A1, c1, none, 0, A3, c3, none, 0, rfl, ((VX2.out.touch hT (fun b hb e => by have h1 := hb.1; omega)).mono (P' := fun b => w.heap.size ≤ b) (fun b hb => by have h1 := hb.1; omega)).rng, X.out.1.trans (hT.below (fun b e => by omega) X.out.1.size)⟩
end Go.Proofs.Ytmeacgpebpfpbaa
