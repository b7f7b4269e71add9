/- Chapter 12: AddEntity, the reference's. Chapter 12: AddEntity, the reference's: no room. Chapter 12: AddEntity, both sides. -/
import Derived.Test.YtmeacgpebpfpbaaHeldZ
import Derived.Test.YtmeacgpebpfpbaaMzVcpB
import Derived.Deep.RegionHeld3
import Derived.Deep.RegionLaw
import Derived.Deep.Cut
import Derived.LoopTactic
import Derived.Lib.Hide
import Derived.Deep.QuietTactic
import Derived.BigQuiet
import Derived.Deep.RegionWith
import Derived.Handy
import Derived.Test.YtmeacgpebpfpbaaAddI
section
namespace Go.Proofs.Ytmeacgpebpfpbaa
open Go.RowKit
set_option linter.unusedVariables false
set_option linter.unusedSimpArgs false
set_option maxRecDepth 100000 in
set_option maxHeartbeats 16000000 in
theorem specAdd (f0 : Int) (L1 : List Dat) (A1 : Option Addr) (n1 c1 : Nat) (L2 : List Dat) (A2 : Option Addr) (n2 c2 : Nat) (L3 : List Dat) (A3 : Option Addr) (n3 c3 : Nat) (L4 : List Dat) (A4 : Option Addr) (n4 c4 : Nat) (g0 : Int) (g1 : Int) (M2 : List Dat) (D2 : Option Addr) (m2 j2 : Nat) (g3 : Int) (g4_0 : Int) (g4_1 : Int) (M5 : List Dat) (D5 : Option Addr) (m5 j5 : Nat) (M6 : List Dat) (D6 : Option Addr) (m6 j6 : Nat) (g7 : Int) (g8 : Int) (g9 : Int) (g10 : Int) (w : World) (hl1 : Lies w (.l L1) [.slice A1 n1 c1]) (ht1 : ∀ x ∈ L1, Has tyEntity x) (hq1 : (Dat.l L1).bulk ≤ 549755813888) (hl2 : Lies w (.l L2) [.slice A2 n2 c2]) (ht2 : ∀ x ∈ L2, Has tySent x) (hq2 : (Dat.l L2).bulk ≤ 549755813888) (hl3 : Lies w (.l L3) [.slice A3 n3 c3]) (ht3 : ∀ x ∈ L3, Has tyLink x) (hq3 : (Dat.l L3).bulk ≤ 549755813888) (hl4 : Lies w (.l L4) [.slice A4 n4 c4]) (ht4 : ∀ x ∈ L4, Has tyOutgoing x) (hq4 : (Dat.l L4).bulk ≤ 549755813888) (he2 : Lies w (.l M2) [.slice D2 m2 j2]) (hf2 : ∀ x ∈ M2, Has tyValue x) (hu2 : (Dat.l M2).bulk ≤ 549755813888) (he5 : Lies w (.l M5) [.slice D5 m5 j5]) (hf5 : ∀ x ∈ M5, Has tySent x) (hu5 : (Dat.l M5).bulk ≤ 549755813888) (he6 : Lies w (.l M6) [.slice D6 m6 j6]) (hf6 : ∀ x ∈ M6, Has tyAsker x) (hu6 : (Dat.l M6).bulk ≤ 549755813888) (h200 : n1 < 200) :
    Calls Try.prog 36 #[.agg #[.int .i64 f0, .slice A1 n1 c1, .slice A2 n2 c2, .slice A3 n3 c3, .slice A4 n4 c4], .agg #[.int .i64 g0, .int .i64 g1, .slice D2 m2 j2, .int .i64 g3, .int .i64 g4_0, .int .i64 g4_1, .slice D5 m5 j5, .slice D6 m6 j6, .int .i64 g7, .int .i64 g8, .int .i64 g9, .int .i64 g10]] w (GivesVtI f0 (L1 ++ [.r [.i g0, .i g1, .l M2, .i g3, .r [.i g4_0, .i g4_1], .l M5, .l M6, .i g7, .i g8, .i g9, .i g10]]) (n1 + 1) L2 n2 L3 n3 L4 n4 (n1 : Int) w) := by
  obtain ⟨i1, hj1, hx1, hy1, hz1⟩ := info_parts infoEntity
  have HL1 := Lib.hid hl1
  have HT1 := Lib.hid ht1
  have HL2 := Lib.hid hl2
  have HT2 := Lib.hid ht2
  have HL3 := Lib.hid hl3
  have HT3 := Lib.hid ht3
  have HL4 := Lib.hid hl4
  have HT4 := Lib.hid ht4
  have HE2 := Lib.hid he2
  have HF2 := Lib.hid hf2
  have HE5 := Lib.hid he5
  have HF5 := Lib.hid hf5
  have HE6 := Lib.hid he6
  have HF6 := Lib.hid hf6
  clear hl1 ht1 hl2 ht2 hl3 ht3 hl4 ht4 he2 hf2 he5 hf5 he6 hf6
  have X1 : Hid (HeldZ w [(w.heap.size, [.int .i64 f0, .slice A1 n1 c1, .slice A2 n2 c2, .slice A3 n3 c3, .slice A4 n4 c4])] (w.alloc (.cells #[.int .i64 f0, .slice A1 n1 c1, .slice A2 n2 c2, .slice A3 n3 c3, .slice A4 n4 c4] 29))) := Lib.hid (by have h1 := (HeldZ.start w).new #[.int .i64 f0, .slice A1 n1 c1, .slice A2 n2 c2, .slice A3 n3 c3, .slice A4 n4 c4] 29; (try simp only [World.size_alloc] at h1); exact h1)
  have X2 : Hid (HeldZ w [(w.heap.size + 1, [.int .i64 g0, .int .i64 g1, .slice D2 m2 j2, .int .i64 g3, .int .i64 g4_0, .int .i64 g4_1, .slice D5 m5 j5, .slice D6 m6 j6, .int .i64 g7, .int .i64 g8, .int .i64 g9, .int .i64 g10]), (w.heap.size, [.int .i64 f0, .slice A1 n1 c1, .slice A2 n2 c2, .slice A3 n3 c3, .slice A4 n4 c4])] ((w.alloc (.cells #[.int .i64 f0, .slice A1 n1 c1, .slice A2 n2 c2, .slice A3 n3 c3, .slice A4 n4 c4] 29)).alloc (.cells #[.int .i64 g0, .int .i64 g1, .slice D2 m2 j2, .int .i64 g3, .int .i64 g4_0, .int .i64 g4_1, .slice D5 m5 j5, .slice D6 m6 j6, .int .i64 g7, .int .i64 g8, .int .i64 g9, .int .i64 g10] 38))) := Lib.hid (by have h1 := X1.out.new #[.int .i64 g0, .int .i64 g1, .slice D2 m2 j2, .int .i64 g3, .int .i64 g4_0, .int .i64 g4_1, .slice D5 m5 j5, .slice D6 m6 j6, .int .i64 g7, .int .i64 g8, .int .i64 g9, .int .i64 g10] 38; (try simp only [World.size_alloc] at h1); exact h1)
  have X3 : Hid (HeldZ w [(w.heap.size + 1 + 1, [.int .i64 0, .slice none 0 0, .slice none 0 0, .slice none 0 0, .slice none 0 0]), (w.heap.size + 1, [.int .i64 g0, .int .i64 g1, .slice D2 m2 j2, .int .i64 g3, .int .i64 g4_0, .int .i64 g4_1, .slice D5 m5 j5, .slice D6 m6 j6, .int .i64 g7, .int .i64 g8, .int .i64 g9, .int .i64 g10]), (w.heap.size, [.int .i64 f0, .slice A1 n1 c1, .slice A2 n2 c2, .slice A3 n3 c3, .slice A4 n4 c4])] (((w.alloc (.cells #[.int .i64 f0, .slice A1 n1 c1, .slice A2 n2 c2, .slice A3 n3 c3, .slice A4 n4 c4] 29)).alloc (.cells #[.int .i64 g0, .int .i64 g1, .slice D2 m2 j2, .int .i64 g3, .int .i64 g4_0, .int .i64 g4_1, .slice D5 m5 j5, .slice D6 m6 j6, .int .i64 g7, .int .i64 g8, .int .i64 g9, .int .i64 g10] 38)).alloc (.cells #[.int .i64 0, .slice none 0 0, .slice none 0 0, .slice none 0 0, .slice none 0 0] 29))) := Lib.hid (by have h1 := X2.out.new #[.int .i64 0, .slice none 0 0, .slice none 0 0, .slice none 0 0, .slice none 0 0] 29; (try simp only [World.size_alloc] at h1); exact h1)
  have X := X3
  clear X1 X2 X3
  go_enter Try.func36, Try.ntmps36
  go_wp2_with fail
  refine (specCopV f0 L1 A1 n1 c1 L2 A2 n2 c2 L3 A3 n3 c3 L4 A4 n4 c4 _ (HL1.out.below X.out.1) HT1.out hq1 (HL2.out.below X.out.1) HT2.out hq2 (HL3.out.below X.out.1) HT3.out hq3 (HL4.out.below X.out.1) HT4.out hq4).mono ?_
  rintro e w1 ⟨B1, k1, B2, k2, B3, k3, B4, k4, rfl, hV, hb⟩
  have hs1 := hb.size
  simp only [World.size_alloc] at hs1
  have VX : Hid (VatX (rng (w.heap.size + 1 + 1 + 1) w1.heap.size) w1 L1 B1 n1 k1 L2 B2 n2 k2 L3 B3 n3 k3 L4 B4 n4 k4) := Lib.hid (by have h1 := hV; (try simp only [World.size_alloc] at h1); exact h1)
  clear hV
  replace X : Hid (HeldZ w [(w.heap.size + 1 + 1, [.int .i64 0, .slice none 0 0, .slice none 0 0, .slice none 0 0, .slice none 0 0]), (w.heap.size + 1, [.int .i64 g0, .int .i64 g1, .slice D2 m2 j2, .int .i64 g3, .int .i64 g4_0, .int .i64 g4_1, .slice D5 m5 j5, .slice D6 m6 j6, .int .i64 g7, .int .i64 g8, .int .i64 g9, .int .i64 g10]), (w.heap.size, [.int .i64 f0, .slice A1 n1 c1, .slice A2 n2 c2, .slice A3 n3 c3, .slice A4 n4 c4])] w1) := Lib.hid (X.out.below hb)
  clear hb
  go_upto_region 2 with (fail)
  replace X : Hid (HeldZ w [(w1.heap.size, [.int .i64 f0, .slice B1 n1 k1, .slice B2 n2 k2, .slice B3 n3 k3, .slice B4 n4 k4]), (w.heap.size + 1 + 1, [.int .i64 0, .slice none 0 0, .slice none 0 0, .slice none 0 0, .slice none 0 0]), (w.heap.size + 1, [.int .i64 g0, .int .i64 g1, .slice D2 m2 j2, .int .i64 g3, .int .i64 g4_0, .int .i64 g4_1, .slice D5 m5 j5, .slice D6 m6 j6, .int .i64 g7, .int .i64 g8, .int .i64 g9, .int .i64 g10]), (w.heap.size, [.int .i64 f0, .slice A1 n1 c1, .slice A2 n2 c2, .slice A3 n3 c3, .slice A4 n4 c4])] (w1.alloc (.cells #[.int .i64 f0, .slice B1 n1 k1, .slice B2 n2 k2, .slice B3 n3 k3, .slice B4 n4 k4] 29))) := Lib.hid (X.out.new #[.int .i64 f0, .slice B1 n1 k1, .slice B2 n2 k2, .slice B3 n3 k3, .slice B4 n4 k4] 29)
  replace VX := Lib.hid (VX.out.below ((Below.refl _ _).alloc (Nat.le_refl _) (.cells #[.int .i64 f0, .slice B1 n1 k1, .slice B2 n2 k2, .slice B3 n3 k3, .slice B4 n4 k4] 29)))
  have hs2 : w1.heap.size + 1 ≤ (w1.alloc (.cells #[.int .i64 f0, .slice B1 n1 k1, .slice B2 n2 k2, .slice B3 n3 k3, .slice B4 n4 k4] 29)).heap.size := by simp
  generalize (w1.alloc (.cells #[.int .i64 f0, .slice B1 n1 k1, .slice B2 n2 k2, .slice B3 n3 k3, .slice B4 n4 k4] 29)) = w2 at *
  obtain ⟨z0_0, z0_1, z0_2, z0_3, z0_4, z0f⟩ := (X.out.zx (g := w1.heap.size) (cs := [.int .i64 f0, .slice B1 n1 k1, .slice B2 n2 k2, .slice B3 n3 k3, .slice B4 n4 k4]) (by repeat (first | exact List.mem_cons_self | refine List.mem_cons_of_mem _ ?_))).d5
  obtain ⟨z1_0, z1_1, z1_2, z1_3, z1_4, z1f⟩ := (X.out.zx (g := w.heap.size + 1 + 1) (cs := [.int .i64 0, .slice none 0 0, .slice none 0 0, .slice none 0 0, .slice none 0 0]) (by repeat (first | exact List.mem_cons_self | refine List.mem_cons_of_mem _ ?_))).d5
  obtain ⟨z2_0, z2_1, z2_2, z2_3, z2_4, z2_5, z2_6, z2_7, z2_8, z2_9, z2_10, z2_11, z2f⟩ := (X.out.zx (g := w.heap.size + 1) (cs := [.int .i64 g0, .int .i64 g1, .slice D2 m2 j2, .int .i64 g3, .int .i64 g4_0, .int .i64 g4_1, .slice D5 m5 j5, .slice D6 m6 j6, .int .i64 g7, .int .i64 g8, .int .i64 g9, .int .i64 g10]) (by repeat (first | exact List.mem_cons_self | refine List.mem_cons_of_mem _ ?_))).d12
  obtain ⟨z3_0, z3_1, z3_2, z3_3, z3_4, z3f⟩ := (X.out.zx (g := w.heap.size) (cs := [.int .i64 f0, .slice A1 n1 c1, .slice A2 n2 c2, .slice A3 n3 c3, .slice A4 n4 c4]) (by repeat (first | exact List.mem_cons_self | refine List.mem_cons_of_mem _ ?_))).d5
  have HS : Hid (∀ w' : World, Zx (w.heap.size + 1) [.int .i64 g0, .int .i64 g1, .slice D2 m2 j2, .int .i64 g3, .int .i64 g4_0, .int .i64 g4_1, .slice D5 m5 j5, .slice D6 m6 j6, .int .i64 g7, .int .i64 g8, .int .i64 g9, .int .i64 g10] w' → (w'.cell? ⟨w.heap.size + 1, 0, none⟩ = some (.int .i64 g0) ∧ w'.cell? ⟨w.heap.size + 1, 1, none⟩ = some (.int .i64 g1) ∧ w'.cell? ⟨w.heap.size + 1, 2, none⟩ = some (.slice D2 m2 j2) ∧ w'.cell? ⟨w.heap.size + 1, 3, none⟩ = some (.int .i64 g3) ∧ w'.cell? ⟨w.heap.size + 1, 4, none⟩ = some (.int .i64 g4_0) ∧ w'.cell? ⟨w.heap.size + 1, 5, none⟩ = some (.int .i64 g4_1) ∧ w'.cell? ⟨w.heap.size + 1, 6, none⟩ = some (.slice D5 m5 j5) ∧ w'.cell? ⟨w.heap.size + 1, 7, none⟩ = some (.slice D6 m6 j6) ∧ w'.cell? ⟨w.heap.size + 1, 8, none⟩ = some (.int .i64 g7) ∧ w'.cell? ⟨w.heap.size + 1, 9, none⟩ = some (.int .i64 g8) ∧ w'.cell? ⟨w.heap.size + 1, 10, none⟩ = some (.int .i64 g9) ∧ w'.cell? ⟨w.heap.size + 1, 11, none⟩ = some (.int .i64 g10))) := Lib.hid (fun w' h => ⟨h.1.2 0 _ rfl, h.1.2 1 _ rfl, h.1.2 2 _ rfl, h.1.2 3 _ rfl, h.1.2 4 _ rfl, h.1.2 5 _ rfl, h.1.2 6 _ rfl, h.1.2 7 _ rfl, h.1.2 8 _ rfl, h.1.2 9 _ rfl, h.1.2 10 _ rfl, h.1.2 11 _ rfl⟩)
  have XD := Lib.hid (X.out.below (Below.refl _ _).drew)
  have VXD := Lib.hid (VX.out.below (Below.refl _ _).drew)
  have hbd : Hid (Below w.heap.size w w2.drew) := Lib.hid XD.out.1
  have HG2 := Lib.hid (HE2.out.below hbd.out)
  have HG5 := Lib.hid (HE5.out.below hbd.out)
  have HG6 := Lib.hid (HE6.out.below hbd.out)
  go_wp2_with fail
  refine wp_region_held_drew (S := (fun w' => w'.cell? ⟨w.heap.size + 1, 0, none⟩ = some (.int .i64 g0) ∧ w'.cell? ⟨w.heap.size + 1, 1, none⟩ = some (.int .i64 g1) ∧ w'.cell? ⟨w.heap.size + 1, 2, none⟩ = some (.slice D2 m2 j2) ∧ w'.cell? ⟨w.heap.size + 1, 3, none⟩ = some (.int .i64 g3) ∧ w'.cell? ⟨w.heap.size + 1, 4, none⟩ = some (.int .i64 g4_0) ∧ w'.cell? ⟨w.heap.size + 1, 5, none⟩ = some (.int .i64 g4_1) ∧ w'.cell? ⟨w.heap.size + 1, 6, none⟩ = some (.slice D5 m5 j5) ∧ w'.cell? ⟨w.heap.size + 1, 7, none⟩ = some (.slice D6 m6 j6) ∧ w'.cell? ⟨w.heap.size + 1, 8, none⟩ = some (.int .i64 g7) ∧ w'.cell? ⟨w.heap.size + 1, 9, none⟩ = some (.int .i64 g8) ∧ w'.cell? ⟨w.heap.size + 1, 10, none⟩ = some (.int .i64 g9) ∧ w'.cell? ⟨w.heap.size + 1, 11, none⟩ = some (.int .i64 g10))) (by kernel_rfl) ?_ (fun hH0 => ?_)
  · exact HS.out _ (XD.out.zx (g := w.heap.size + 1) (cs := [.int .i64 g0, .int .i64 g1, .slice D2 m2 j2, .int .i64 g3, .int .i64 g4_0, .int .i64 g4_1, .slice D5 m5 j5, .slice D6 m6 j6, .int .i64 g7, .int .i64 g8, .int .i64 g9, .int .i64 g10]) (by repeat (first | exact List.mem_cons_self | refine List.mem_cons_of_mem _ ?_)))
  refine wpAnyH_take (i := 0) (v := ?_) rfl (by kernel_rfl) (by kernel_rfl) (by kernel_rfl) (fun _ _ _ h => h) (Or.inl ⟨by rfl, ?_⟩) hH0 ?_
  rotate_left
  · intro w hSw; (try dsimp only at hSw); go_simp; (try with_reducible rfl)
  simp only [Act.put, List.setIfInBounds_toArray, List.set_cons_zero, List.set_cons_succ]
  refine wpAnyH_take (i := 2) (v := ?_) rfl (by kernel_rfl) (by kernel_rfl) (by kernel_rfl) (fun _ _ _ h => h) (Or.inl ⟨by rfl, ?_⟩) hH0 ?_
  rotate_left
  · intro w hSw; (try dsimp only at hSw); go_simp; (try with_reducible rfl)
  simp only [Act.put, List.setIfInBounds_toArray, List.set_cons_zero, List.set_cons_succ]
  refine wpAnyH_ready (rs := [1, 3]) (by kernel_rfl) (by simp) ?_
  refine AllReadyH.cons rfl (fun K hK => ?_) ?_
  · go_simp
    refine hK.out _ _ ?_ (fun hH1 => ?_)
    · exact HS.out _ (XD.out.zx (g := w.heap.size + 1) (cs := [.int .i64 g0, .int .i64 g1, .slice D2 m2 j2, .int .i64 g3, .int .i64 g4_0, .int .i64 g4_1, .slice D5 m5 j5, .slice D6 m6 j6, .int .i64 g7, .int .i64 g8, .int .i64 g9, .int .i64 g10]) (by repeat (first | exact List.mem_cons_self | refine List.mem_cons_of_mem _ ?_)))
    clear hK K hH0
    (try simp only [Act.put, List.setIfInBounds_toArray, List.set_cons_zero, List.set_cons_succ])
    refine wpAnyH_ready (rs := [3]) (by kernel_rfl) (by simp) ?_
    refine AllReadyH.cons rfl (fun K hK => ?_) ?_
    · (go_simp; go_at_call 98; (with_reducible refine (specCopE g0 g1 M2 D2 m2 j2 g3 g4_0 g4_1 M5 D5 m5 j5 M6 D6 m6 j6 g7 g8 g9 g10 _ HG2.out HF2.out hu2 HG5.out HF5.out hu5 HG6.out HF6.out hu6).mono ?_); rintro e w8 ⟨Q2, t2, Q5, t5, Q6, t6, rfl, hO, hb⟩; (have HO := Lib.hid hO); (have X8 := Lib.hid (XD.out.below hb)); (have XL := Lib.hid (X8.out.below ((Below.refl _ _).alloc (Nat.le_refl _) (.cells #[.int .i64 g0, .int .i64 g1, .slice Q2 m2 t2, .int .i64 g3, .int .i64 g4_0, .int .i64 g4_1, .slice Q5 m5 t5, .slice Q6 m6 t6, .int .i64 g7, .int .i64 g8, .int .i64 g9, .int .i64 g10] 38)))); (obtain ⟨Bg, hg, hgB, hgA, hbk⟩ := VXD.out.app1 (hb.alloc hb.size (.cells #[.int .i64 g0, .int .i64 g1, .slice Q2 m2 t2, .int .i64 g3, .int .i64 g4_0, .int .i64 g4_1, .slice Q5 m5 t5, .slice Q6 m6 t6, .int .i64 g7, .int .i64 g8, .int .i64 g9, .int .i64 g10] 38))); (have HG := Lib.hid hg); (have HGB := Lib.hid hgB); (have HGA := Lib.hid hgA); (have HBK := Lib.hid hbk); (have a1 := (X8.out.zx (g := w1.heap.size) (cs := [.int .i64 f0, .slice B1 n1 k1, .slice B2 n2 k2, .slice B3 n3 k3, .slice B4 n4 k4]) (by repeat (first | exact List.mem_cons_self | refine List.mem_cons_of_mem _ ?_))).d5.2.1); (have F8 := fun o9 => ((X8.out.zx (g := w1.heap.size) (cs := [.int .i64 f0, .slice B1 n1 k1, .slice B2 n2 k2, .slice B3 n3 k3, .slice B4 n4 k4]) (by repeat (first | exact List.mem_cons_self | refine List.mem_cons_of_mem _ ?_))).below ((Below.refl _ _).alloc (Nat.le_refl _) o9)).d5.2.1); clear hO hb hg hgB hgA hbk; (try (go_wp2_with fail)))
      refine hK.out _ _ ?_ (fun hH2 => ?_)
      · exact HS.out _ (X8.out.zx (g := w.heap.size + 1) (cs := [.int .i64 g0, .int .i64 g1, .slice D2 m2 j2, .int .i64 g3, .int .i64 g4_0, .int .i64 g4_1, .slice D5 m5 j5, .slice D6 m6 j6, .int .i64 g7, .int .i64 g8, .int .i64 g9, .int .i64 g10]) (by repeat (first | exact List.mem_cons_self | refine List.mem_cons_of_mem _ ?_)))
      clear hK K hH1
      (try simp only [Act.put, List.setIfInBounds_toArray, List.set_cons_zero, List.set_cons_succ])
      refine wpAnyH_ready (rs := [4]) (by kernel_rfl) (by simp) ?_
      refine AllReadyH.cons rfl (fun K hK => ?_) ?_
      · go_simp
        refine hK.out _ _ ?_ (fun hH3 => ?_)
        · exact HS.out _ (XL.out.zx (g := w.heap.size + 1) (cs := [.int .i64 g0, .int .i64 g1, .slice D2 m2 j2, .int .i64 g3, .int .i64 g4_0, .int .i64 g4_1, .slice D5 m5 j5, .slice D6 m6 j6, .int .i64 g7, .int .i64 g8, .int .i64 g9, .int .i64 g10]) (by repeat (first | exact List.mem_cons_self | refine List.mem_cons_of_mem _ ?_)))
        clear hK K hH2
        (try simp only [Act.put, List.setIfInBounds_toArray, List.set_cons_zero, List.set_cons_succ])
        refine wpAnyH_ready (rs := [5]) (by kernel_rfl) (by simp) ?_
        refine AllReadyH.cons rfl (fun K hK => ?_) ?_
        · (refine step_append_dat _ rfl _ _ 24 rfl 12 (by omega) 38 i1 _ 144 Try.underlying24 hj1 hx1 hy1 rfl hz1 0 B1 n1 k1 L1 Bg rfl HG.out (some ⟨w8.heap.size, 0, none⟩) 1 1 [.r [.i g0, .i g1, .l M2, .i g3, .r [.i g4_0, .i g4_1], .l M5, .l M6, .i g7, .i g8, .i g9, .i g10]] (rng w2.drew.heap.size w8.heap.size) rfl (Src.lit rfl HO.out rfl (fun b hb => hb.2)) (fun b hb hb2 => by have h1 := (HGB.out b hb).2; have h2 := hb2.1; omega) (fun a e hb2 => by have h1 := (HGA.out a e).2; have h2 := hb2.1; omega) (by unfold maxLen; omega) (by omega) (Nat.zero_le _) ?_; intro A9 c9 w9 hG9 hT9 hA9; (have VX9 := Lib.hid (HBK.out w9 A9 _ c9 _ _ hG9 hT9 hA9 (fun b hb => hb.1))); (have X9 := Lib.hid (XL.out.touch hT9 (fun b ⟨a, e9, hb9⟩ => by have h1 := (HGA.out a e9).1.1; omega) (fun p hp ⟨a, e9, hb9⟩ => by have h1 := (HGA.out a e9).1.1; have h2 := (HGA.out a e9).1.2; simp only [List.mem_cons, List.not_mem_nil, or_false] at hp; rcases hp with rfl | rfl | rfl | rfl <;> (simp only at hb9) <;> omega))); clear hG9 hT9 hA9; (have XS := Lib.hid (X9.out.put (fun p hp => by simp only [List.mem_cons, List.not_mem_nil, or_false] at hp; rcases hp with rfl | rfl | rfl <;> (show (_ : Nat) ≠ _) <;> omega) 1 (.slice A9 (n1 + 1) c9))); (obtain ⟨v0, v1, v2, v3, v4, fv⟩ := (X9.out.zx (g := w1.heap.size) (cs := [.int .i64 f0, .slice B1 n1 k1, .slice B2 n2 k2, .slice B3 n3 k3, .slice B4 n4 k4]) (by repeat (first | exact List.mem_cons_self | refine List.mem_cons_of_mem _ ?_))).d5))
          refine hK.out _ _ ?_ (fun hH4 => ?_)
          · exact HS.out _ (X9.out.zx (g := w.heap.size + 1) (cs := [.int .i64 g0, .int .i64 g1, .slice D2 m2 j2, .int .i64 g3, .int .i64 g4_0, .int .i64 g4_1, .slice D5 m5 j5, .slice D6 m6 j6, .int .i64 g7, .int .i64 g8, .int .i64 g9, .int .i64 g10]) (by repeat (first | exact List.mem_cons_self | refine List.mem_cons_of_mem _ ?_)))
          clear hK K hH3
          (try simp only [Act.put, List.setIfInBounds_toArray, List.set_cons_zero, List.set_cons_succ])
          refine wpAnyH_take (i := 6) (v := ?_) rfl (by kernel_rfl) (by kernel_rfl) (by kernel_rfl) (fun _ _ _ h => h) (Or.inl ⟨by rfl, ?_⟩) hH4 ?_
          rotate_left
          · intro w hSw; (try dsimp only at hSw); go_simp; (try with_reducible rfl)
          simp only [Act.put, List.setIfInBounds_toArray, List.set_cons_zero, List.set_cons_succ]
          refine wpAnyH_ready (rs := [7]) (by kernel_rfl) (by simp) ?_
          refine AllReadyH.cons rfl (fun K hK => ?_) ?_
          · go_simp
            refine hK.out _ _ ?_ (fun hH5 => ?_)
            · exact HS.out _ (XS.out.zx (g := w.heap.size + 1) (cs := [.int .i64 g0, .int .i64 g1, .slice D2 m2 j2, .int .i64 g3, .int .i64 g4_0, .int .i64 g4_1, .slice D5 m5 j5, .slice D6 m6 j6, .int .i64 g7, .int .i64 g8, .int .i64 g9, .int .i64 g10]) (by repeat (first | exact List.mem_cons_self | refine List.mem_cons_of_mem _ ?_)))
            clear hK K hH4
            (try simp only [Act.put, List.setIfInBounds_toArray, List.set_cons_zero, List.set_cons_succ])
            refine wpAnyH_done (by kernel_rfl) ?_ _
            clear HS XD VXD hbd
            replace X : Hid (HeldZ w [(w1.heap.size, [.int .i64 f0, .slice A9 (n1 + 1) c9, .slice B2 n2 k2, .slice B3 n3 k3, .slice B4 n4 k4]), (w.heap.size + 1 + 1, [.int .i64 0, .slice none 0 0, .slice none 0 0, .slice none 0 0, .slice none 0 0]), (w.heap.size + 1, [.int .i64 g0, .int .i64 g1, .slice D2 m2 j2, .int .i64 g3, .int .i64 g4_0, .int .i64 g4_1, .slice D5 m5 j5, .slice D6 m6 j6, .int .i64 g7, .int .i64 g8, .int .i64 g9, .int .i64 g10]), (w.heap.size, [.int .i64 f0, .slice A1 n1 c1, .slice A2 n2 c2, .slice A3 n3 c3, .slice A4 n4 c4])] (w9.setCell ⟨w1.heap.size, 1, none⟩ (.slice A9 (n1 + 1) c9))) := XS
            replace VX := Lib.hid (VX9.out.touch (w' := (w9.setCell ⟨w1.heap.size, 1, none⟩ (.slice A9 (n1 + 1) c9))) ((Touch.refl (fun b => b = w1.heap.size) w9).setCell (p := ⟨w1.heap.size, 1, none⟩) rfl _) (fun b hb e => by rcases hb with hb | hb; have h1 := hb.1; have h2 := hb.2; omega; simp only [World.size_drew] at hb; omega))
            generalize (w9.setCell ⟨w1.heap.size, 1, none⟩ (.slice A9 (n1 + 1) c9)) = w10 at *
            obtain ⟨x0_0, x0_1, x0_2, x0_3, x0_4, x0f⟩ := (X.out.zx (g := w1.heap.size) (cs := [.int .i64 f0, .slice A9 (n1 + 1) c9, .slice B2 n2 k2, .slice B3 n3 k3, .slice B4 n4 k4]) (by repeat (first | exact List.mem_cons_self | refine List.mem_cons_of_mem _ ?_))).d5
            obtain ⟨x1_0, x1_1, x1_2, x1_3, x1_4, x1f⟩ := (X.out.zx (g := w.heap.size + 1 + 1) (cs := [.int .i64 0, .slice none 0 0, .slice none 0 0, .slice none 0 0, .slice none 0 0]) (by repeat (first | exact List.mem_cons_self | refine List.mem_cons_of_mem _ ?_))).d5
            obtain ⟨x2_0, x2_1, x2_2, x2_3, x2_4, x2_5, x2_6, x2_7, x2_8, x2_9, x2_10, x2_11, x2f⟩ := (X.out.zx (g := w.heap.size + 1) (cs := [.int .i64 g0, .int .i64 g1, .slice D2 m2 j2, .int .i64 g3, .int .i64 g4_0, .int .i64 g4_1, .slice D5 m5 j5, .slice D6 m6 j6, .int .i64 g7, .int .i64 g8, .int .i64 g9, .int .i64 g10]) (by repeat (first | exact List.mem_cons_self | refine List.mem_cons_of_mem _ ?_))).d12
            obtain ⟨x3_0, x3_1, x3_2, x3_3, x3_4, x3f⟩ := (X.out.zx (g := w.heap.size) (cs := [.int .i64 f0, .slice A1 n1 c1, .slice A2 n2 c2, .slice A3 n3 c3, .slice A4 n4 c4]) (by repeat (first | exact List.mem_cons_self | refine List.mem_cons_of_mem _ ?_))).d5
            go_wp2_with fail
            have HS5 : Hid (∀ w' : World, Zx (w1.heap.size) [.int .i64 f0, .slice A9 (n1 + 1) c9, .slice B2 n2 k2, .slice B3 n3 k3, .slice B4 n4 k4] w' → Zx w.heap.size [.int .i64 f0, .slice A1 n1 c1, .slice A2 n2 c2, .slice A3 n3 c3, .slice A4 n4 c4] w' → (w'.cell? ⟨w1.heap.size, 0, none⟩ = some (.int .i64 f0) ∧ w'.cell? ⟨w1.heap.size, 1, none⟩ = some (.slice A9 (n1 + 1) c9) ∧ w'.cell? ⟨w1.heap.size, 2, none⟩ = some (.slice B2 n2 k2) ∧ w'.cell? ⟨w1.heap.size, 3, none⟩ = some (.slice B3 n3 k3) ∧ w'.cell? ⟨w1.heap.size, 4, none⟩ = some (.slice B4 n4 k4) ∧ w'.cell? ⟨w.heap.size, 1, none⟩ = some (.slice A1 n1 c1))) := Lib.hid (fun w' h h2 => ⟨h.1.2 0 _ rfl, h.1.2 1 _ rfl, h.1.2 2 _ rfl, h.1.2 3 _ rfl, h.1.2 4 _ rfl, h2.1.2 1 _ rfl⟩)
            have ZO5 := Lib.hid (X.out.zx (g := w1.heap.size) (cs := [.int .i64 f0, .slice A9 (n1 + 1) c9, .slice B2 n2 k2, .slice B3 n3 k3, .slice B4 n4 k4]) (by repeat (first | exact List.mem_cons_self | refine List.mem_cons_of_mem _ ?_)))
            have ZV5 := Lib.hid (X.out.zx (g := w.heap.size) (cs := [.int .i64 f0, .slice A1 n1 c1, .slice A2 n2 c2, .slice A3 n3 c3, .slice A4 n4 c4]) (by repeat (first | exact List.mem_cons_self | refine List.mem_cons_of_mem _ ?_)))
            have ne5 : w.heap.size + 1 + 1 ≠ w1.heap.size := by omega
            have ne6 : w.heap.size + 1 + 1 ≠ w.heap.size := by omega
            refine wp_region_held_drew (S := (fun w' => w'.cell? ⟨w1.heap.size, 0, none⟩ = some (.int .i64 f0) ∧ w'.cell? ⟨w1.heap.size, 1, none⟩ = some (.slice A9 (n1 + 1) c9) ∧ w'.cell? ⟨w1.heap.size, 2, none⟩ = some (.slice B2 n2 k2) ∧ w'.cell? ⟨w1.heap.size, 3, none⟩ = some (.slice B3 n3 k3) ∧ w'.cell? ⟨w1.heap.size, 4, none⟩ = some (.slice B4 n4 k4) ∧ w'.cell? ⟨w.heap.size, 1, none⟩ = some (.slice A1 n1 c1))) (by kernel_rfl) ?_ (fun hH0 => ?_)
            · exact HS5.out _ (ZO5.out.below (Below.refl _ _).drew) (ZV5.out.below (Below.refl _ _).drew)
            refine wpAnyH_take (i := 0) (v := ?_) rfl (by kernel_rfl) (by kernel_rfl) (by kernel_rfl) (fun _ _ _ h => h) (Or.inl ⟨by rfl, ?_⟩) hH0 ?_
            rotate_left
            · intro w hSw; (try dsimp only at hSw); go_simp; (try with_reducible rfl)
            simp only [Act.put, List.setIfInBounds_toArray, List.set_cons_zero, List.set_cons_succ]
            refine wpAnyH_take (i := 1) (v := ?_) rfl (by kernel_rfl) (by kernel_rfl) (by kernel_rfl) (fun _ _ _ h => h) (Or.inl ⟨by rfl, ?_⟩) hH0 ?_
            rotate_left
            · intro w hSw; (try dsimp only at hSw); go_simp; (try with_reducible rfl)
            simp only [Act.put, List.setIfInBounds_toArray, List.set_cons_zero, List.set_cons_succ]
            refine wpAnyH_take (i := 2) (v := ?_) rfl (by kernel_rfl) (by kernel_rfl) (by kernel_rfl) (fun _ _ _ h => h) (Or.inl ⟨by rfl, ?_⟩) hH0 ?_
            rotate_left
            · intro w hSw; (try dsimp only at hSw); go_simp; (try with_reducible rfl)
            simp only [Act.put, List.setIfInBounds_toArray, List.set_cons_zero, List.set_cons_succ]
            refine wpAnyH_ready (rs := [3, 4]) (by kernel_rfl) (by simp) ?_
            refine AllReadyH.cons rfl (fun K hK => ?_) ?_
            · go_simp
              refine hK.out _ _ ?_ (fun hH1 => ?_)
              · exact HS5.out _ (ZO5.out.below (Below.refl _ _).drew) (ZV5.out.below (Below.refl _ _).drew)
              clear hK K hH0
              (try simp only [Act.put, List.setIfInBounds_toArray, List.set_cons_zero, List.set_cons_succ])
              refine wpAnyH_ready (rs := [4]) (by kernel_rfl) (by simp) ?_
              refine AllReadyH.cons rfl (fun K hK => ?_) ?_
              · go_simp
                refine hK.out _ _ ?_ (fun hH2 => ?_)
                · exact HS5.out _ ((((((ZO5.out.far ne5).far ne5).far ne5).far ne5).far ne5).below (Below.refl _ _).drew) ((((((ZV5.out.far ne6).far ne6).far ne6).far ne6).far ne6).below (Below.refl _ _).drew)
                clear hK K hH1
                (try simp only [Act.put, List.setIfInBounds_toArray, List.set_cons_zero, List.set_cons_succ])
                refine wpAnyH_take (i := 5) (oi := { dst := some 5, op := Op.assign (Operand.tmp 24), type := _, pos := _, after := _, guard := _ }) (v := ?_) rfl (by kernel_rfl) (by kernel_rfl) (by kernel_rfl) (fun _ _ _ h => h) (Or.inl ⟨by rfl, ?_⟩) hH2 ?_
                rotate_left
                · intro w hSw; (try dsimp only at hSw); go_simp; (try with_reducible rfl)
                simp only [Act.put, List.setIfInBounds_toArray, List.set_cons_zero, List.set_cons_succ]
                refine wpAnyH_done (by kernel_rfl) ?_ _
                go_wp2_with fail
                refine bodyPost_ret (v := .tuple #[.agg #[.int .i64 f0, .slice A9 (n1 + 1) c9, .slice B2 n2 k2, .slice B3 n3 k3, .slice B4 n4 k4], .int .i64 ((n1 : Int))]) ?hres rfl ?hpost
                case hres => exact results_box2 rfl _ _ (w.heap.size + 1 + 1) [.int .i64 f0, .slice A9 (n1 + 1) c9, .slice B2 n2 k2, .slice B3 n3 k3, .slice B4 n4 k4] _ _ rfl rfl ((((((((X.out.zx (g := w.heap.size + 1 + 1) (cs := [.int .i64 0, .slice none 0 0, .slice none 0 0, .slice none 0 0, .slice none 0 0]) (by repeat (first | exact List.mem_cons_self | refine List.mem_cons_of_mem _ ?_))).1).put 0 _).put 1 _).put 2 _).put 3 _).put 4 _).below (Below.refl _ _).drew) Try.underlying29 rfl (by kernel_rfl)
                case hpost =>
                  suffices h9 : ∀ w' : World, Touch (fun b => b = w.heap.size + 1 + 1) w10 w' → GivesVtI f0 (L1 ++ [.r [.i g0, .i g1, .l M2, .i g3, .r [.i g4_0, .i g4_1], .l M5, .l M6, .i g7, .i g8, .i g9, .i g10]]) (n1 + 1) L2 n2 L3 n3 L4 n4 ((n1 : Int)) w (.returned (.tuple #[.agg #[.int .i64 f0, .slice A9 (n1 + 1) c9, .slice B2 n2 k2, .slice B3 n3 k3, .slice B4 n4 k4], .int .i64 ((n1 : Int))])) w' from h9 _ (((((((Touch.refl (fun b => b = w.heap.size + 1 + 1) w10).setCell (p := ⟨w.heap.size + 1 + 1, 0, none⟩) rfl _).setCell (p := ⟨w.heap.size + 1 + 1, 1, none⟩) rfl _).setCell (p := ⟨w.heap.size + 1 + 1, 2, none⟩) rfl _).setCell (p := ⟨w.heap.size + 1 + 1, 3, none⟩) rfl _).setCell (p := ⟨w.heap.size + 1 + 1, 4, none⟩) rfl _).trans (Touch.of_below (Below.refl _ _).drew))
                  intro w' hT
                  exact ⟨A9, c9, B2, k2, B3, k3, B4, k4, rfl, ((VX.out.touch hT (fun b hb e => by rcases hb with hb | hb; have h1 := hb.1; omega; simp only [World.size_drew] at hb; omega)).mono (P' := fun b => w.heap.size ≤ b) (fun b hb => by rcases hb with hb | hb; have h1 := hb.1; omega; simp only [World.size_drew] at hb; omega)).rng, X.out.1.trans (hT.below (fun b e => by omega) X.out.1.size)⟩
              exact AllReadyH.nil
            refine AllReadyH.cons rfl (fun K hK => ?_) ?_
            · go_simp
              refine hK.out _ _ ?_ (fun hH3 => ?_)
              · exact HS5.out _ ((((((ZO5.out.far ne5).far ne5).far ne5).far ne5).far ne5).below (Below.refl _ _).drew) ((((((ZV5.out.far ne6).far ne6).far ne6).far ne6).far ne6).below (Below.refl _ _).drew)
              clear hK K hH0
              (try simp only [Act.put, List.setIfInBounds_toArray, List.set_cons_zero, List.set_cons_succ])
              refine wpAnyH_ready (rs := [3]) (by kernel_rfl) (by simp) ?_
              refine AllReadyH.cons rfl (fun K hK => ?_) ?_
              · go_simp
                refine hK.out _ _ ?_ (fun hH4 => ?_)
                · exact HS5.out _ ((((((ZO5.out.far ne5).far ne5).far ne5).far ne5).far ne5).below (Below.refl _ _).drew) ((((((ZV5.out.far ne6).far ne6).far ne6).far ne6).far ne6).below (Below.refl _ _).drew)
                clear hK K hH3
                (try simp only [Act.put, List.setIfInBounds_toArray, List.set_cons_zero, List.set_cons_succ])
                refine wpAnyH_take (i := 5) (oi := { dst := some 5, op := Op.assign (Operand.tmp 24), type := _, pos := _, after := _, guard := _ }) (v := ?_) rfl (by kernel_rfl) (by kernel_rfl) (by kernel_rfl) (fun _ _ _ h => h) (Or.inl ⟨by rfl, ?_⟩) hH4 ?_
                rotate_left
                · intro w hSw; (try dsimp only at hSw); go_simp; (try with_reducible rfl)
                simp only [Act.put, List.setIfInBounds_toArray, List.set_cons_zero, List.set_cons_succ]
                refine wpAnyH_done (by kernel_rfl) ?_ _
                go_wp2_with fail
                refine bodyPost_ret (v := .tuple #[.agg #[.int .i64 f0, .slice A9 (n1 + 1) c9, .slice B2 n2 k2, .slice B3 n3 k3, .slice B4 n4 k4], .int .i64 ((n1 : Int))]) ?hres rfl ?hpost
                case hres => exact results_box2 rfl _ _ (w.heap.size + 1 + 1) [.int .i64 f0, .slice A9 (n1 + 1) c9, .slice B2 n2 k2, .slice B3 n3 k3, .slice B4 n4 k4] _ _ rfl rfl ((((((((X.out.zx (g := w.heap.size + 1 + 1) (cs := [.int .i64 0, .slice none 0 0, .slice none 0 0, .slice none 0 0, .slice none 0 0]) (by repeat (first | exact List.mem_cons_self | refine List.mem_cons_of_mem _ ?_))).1).put 0 _).put 1 _).put 2 _).put 3 _).put 4 _).below (Below.refl _ _).drew) Try.underlying29 rfl (by kernel_rfl)
                case hpost =>
                  suffices h9 : ∀ w' : World, Touch (fun b => b = w.heap.size + 1 + 1) w10 w' → GivesVtI f0 (L1 ++ [.r [.i g0, .i g1, .l M2, .i g3, .r [.i g4_0, .i g4_1], .l M5, .l M6, .i g7, .i g8, .i g9, .i g10]]) (n1 + 1) L2 n2 L3 n3 L4 n4 ((n1 : Int)) w (.returned (.tuple #[.agg #[.int .i64 f0, .slice A9 (n1 + 1) c9, .slice B2 n2 k2, .slice B3 n3 k3, .slice B4 n4 k4], .int .i64 ((n1 : Int))])) w' from h9 _ (((((((Touch.refl (fun b => b = w.heap.size + 1 + 1) w10).setCell (p := ⟨w.heap.size + 1 + 1, 0, none⟩) rfl _).setCell (p := ⟨w.heap.size + 1 + 1, 1, none⟩) rfl _).setCell (p := ⟨w.heap.size + 1 + 1, 2, none⟩) rfl _).setCell (p := ⟨w.heap.size + 1 + 1, 3, none⟩) rfl _).setCell (p := ⟨w.heap.size + 1 + 1, 4, none⟩) rfl _).trans (Touch.of_below (Below.refl _ _).drew))
                  intro w' hT
                  exact ⟨A9, c9, B2, k2, B3, k3, B4, k4, rfl, ((VX.out.touch hT (fun b hb e => by rcases hb with hb | hb; have h1 := hb.1; omega; simp only [World.size_drew] at hb; omega)).mono (P' := fun b => w.heap.size ≤ b) (fun b hb => by rcases hb with hb | hb; have h1 := hb.1; omega; simp only [World.size_drew] at hb; omega)).rng, X.out.1.trans (hT.below (fun b e => by omega) X.out.1.size)⟩
              exact AllReadyH.nil
            exact AllReadyH.nil
          exact AllReadyH.nil
        exact AllReadyH.nil
      exact AllReadyH.nil
    exact AllReadyH.nil
  refine AllReadyH.cons rfl (fun K hK => ?_) ?_
  · (go_simp; go_at_call 98; (with_reducible refine (specCopE g0 g1 M2 D2 m2 j2 g3 g4_0 g4_1 M5 D5 m5 j5 M6 D6 m6 j6 g7 g8 g9 g10 _ HG2.out HF2.out hu2 HG5.out HF5.out hu5 HG6.out HF6.out hu6).mono ?_); rintro e w8 ⟨Q2, t2, Q5, t5, Q6, t6, rfl, hO, hb⟩; (have HO := Lib.hid hO); (have X8 := Lib.hid (XD.out.below hb)); (have XL := Lib.hid (X8.out.below ((Below.refl _ _).alloc (Nat.le_refl _) (.cells #[.int .i64 g0, .int .i64 g1, .slice Q2 m2 t2, .int .i64 g3, .int .i64 g4_0, .int .i64 g4_1, .slice Q5 m5 t5, .slice Q6 m6 t6, .int .i64 g7, .int .i64 g8, .int .i64 g9, .int .i64 g10] 38)))); (obtain ⟨Bg, hg, hgB, hgA, hbk⟩ := VXD.out.app1 (hb.alloc hb.size (.cells #[.int .i64 g0, .int .i64 g1, .slice Q2 m2 t2, .int .i64 g3, .int .i64 g4_0, .int .i64 g4_1, .slice Q5 m5 t5, .slice Q6 m6 t6, .int .i64 g7, .int .i64 g8, .int .i64 g9, .int .i64 g10] 38))); (have HG := Lib.hid hg); (have HGB := Lib.hid hgB); (have HGA := Lib.hid hgA); (have HBK := Lib.hid hbk); (have a1 := (X8.out.zx (g := w1.heap.size) (cs := [.int .i64 f0, .slice B1 n1 k1, .slice B2 n2 k2, .slice B3 n3 k3, .slice B4 n4 k4]) (by repeat (first | exact List.mem_cons_self | refine List.mem_cons_of_mem _ ?_))).d5.2.1); (have F8 := fun o9 => ((X8.out.zx (g := w1.heap.size) (cs := [.int .i64 f0, .slice B1 n1 k1, .slice B2 n2 k2, .slice B3 n3 k3, .slice B4 n4 k4]) (by repeat (first | exact List.mem_cons_self | refine List.mem_cons_of_mem _ ?_))).below ((Below.refl _ _).alloc (Nat.le_refl _) o9)).d5.2.1); clear hO hb hg hgB hgA hbk; (try (go_wp2_with fail)))
    refine hK.out _ _ ?_ (fun hH6 => ?_)
    · exact HS.out _ (X8.out.zx (g := w.heap.size + 1) (cs := [.int .i64 g0, .int .i64 g1, .slice D2 m2 j2, .int .i64 g3, .int .i64 g4_0, .int .i64 g4_1, .slice D5 m5 j5, .slice D6 m6 j6, .int .i64 g7, .int .i64 g8, .int .i64 g9, .int .i64 g10]) (by repeat (first | exact List.mem_cons_self | refine List.mem_cons_of_mem _ ?_)))
    clear hK K hH0
    (try simp only [Act.put, List.setIfInBounds_toArray, List.set_cons_zero, List.set_cons_succ])
    refine wpAnyH_ready (rs := [1, 4]) (by kernel_rfl) (by simp) ?_
    refine AllReadyH.cons rfl (fun K hK => ?_) ?_
    · go_simp
      refine hK.out _ _ ?_ (fun hH7 => ?_)
      · exact HS.out _ (X8.out.zx (g := w.heap.size + 1) (cs := [.int .i64 g0, .int .i64 g1, .slice D2 m2 j2, .int .i64 g3, .int .i64 g4_0, .int .i64 g4_1, .slice D5 m5 j5, .slice D6 m6 j6, .int .i64 g7, .int .i64 g8, .int .i64 g9, .int .i64 g10]) (by repeat (first | exact List.mem_cons_self | refine List.mem_cons_of_mem _ ?_)))
      clear hK K hH6
      (try simp only [Act.put, List.setIfInBounds_toArray, List.set_cons_zero, List.set_cons_succ])
      refine wpAnyH_ready (rs := [4]) (by kernel_rfl) (by simp) ?_
      refine AllReadyH.cons rfl (fun K hK => ?_) ?_
      · go_simp
        refine hK.out _ _ ?_ (fun hH8 => ?_)
        · exact HS.out _ (XL.out.zx (g := w.heap.size + 1) (cs := [.int .i64 g0, .int .i64 g1, .slice D2 m2 j2, .int .i64 g3, .int .i64 g4_0, .int .i64 g4_1, .slice D5 m5 j5, .slice D6 m6 j6, .int .i64 g7, .int .i64 g8, .int .i64 g9, .int .i64 g10]) (by repeat (first | exact List.mem_cons_self | refine List.mem_cons_of_mem _ ?_)))
        clear hK K hH7
        (try simp only [Act.put, List.setIfInBounds_toArray, List.set_cons_zero, List.set_cons_succ])
        refine wpAnyH_ready (rs := [5]) (by kernel_rfl) (by simp) ?_
        refine AllReadyH.cons rfl (fun K hK => ?_) ?_
        · (refine step_append_dat _ rfl _ _ 24 rfl 12 (by omega) 38 i1 _ 144 Try.underlying24 hj1 hx1 hy1 rfl hz1 0 B1 n1 k1 L1 Bg rfl HG.out (some ⟨w8.heap.size, 0, none⟩) 1 1 [.r [.i g0, .i g1, .l M2, .i g3, .r [.i g4_0, .i g4_1], .l M5, .l M6, .i g7, .i g8, .i g9, .i g10]] (rng w2.drew.heap.size w8.heap.size) rfl (Src.lit rfl HO.out rfl (fun b hb => hb.2)) (fun b hb hb2 => by have h1 := (HGB.out b hb).2; have h2 := hb2.1; omega) (fun a e hb2 => by have h1 := (HGA.out a e).2; have h2 := hb2.1; omega) (by unfold maxLen; omega) (by omega) (Nat.zero_le _) ?_; intro A9 c9 w9 hG9 hT9 hA9; (have VX9 := Lib.hid (HBK.out w9 A9 _ c9 _ _ hG9 hT9 hA9 (fun b hb => hb.1))); (have X9 := Lib.hid (XL.out.touch hT9 (fun b ⟨a, e9, hb9⟩ => by have h1 := (HGA.out a e9).1.1; omega) (fun p hp ⟨a, e9, hb9⟩ => by have h1 := (HGA.out a e9).1.1; have h2 := (HGA.out a e9).1.2; simp only [List.mem_cons, List.not_mem_nil, or_false] at hp; rcases hp with rfl | rfl | rfl | rfl <;> (simp only at hb9) <;> omega))); clear hG9 hT9 hA9; (have XS := Lib.hid (X9.out.put (fun p hp => by simp only [List.mem_cons, List.not_mem_nil, or_false] at hp; rcases hp with rfl | rfl | rfl <;> (show (_ : Nat) ≠ _) <;> omega) 1 (.slice A9 (n1 + 1) c9))); (obtain ⟨v0, v1, v2, v3, v4, fv⟩ := (X9.out.zx (g := w1.heap.size) (cs := [.int .i64 f0, .slice B1 n1 k1, .slice B2 n2 k2, .slice B3 n3 k3, .slice B4 n4 k4]) (by repeat (first | exact List.mem_cons_self | refine List.mem_cons_of_mem _ ?_))).d5))
          refine hK.out _ _ ?_ (fun hH9 => ?_)
          · exact HS.out _ (X9.out.zx (g := w.heap.size + 1) (cs := [.int .i64 g0, .int .i64 g1, .slice D2 m2 j2, .int .i64 g3, .int .i64 g4_0, .int .i64 g4_1, .slice D5 m5 j5, .slice D6 m6 j6, .int .i64 g7, .int .i64 g8, .int .i64 g9, .int .i64 g10]) (by repeat (first | exact List.mem_cons_self | refine List.mem_cons_of_mem _ ?_)))
          clear hK K hH8
          (try simp only [Act.put, List.setIfInBounds_toArray, List.set_cons_zero, List.set_cons_succ])
          refine wpAnyH_take (i := 6) (v := ?_) rfl (by kernel_rfl) (by kernel_rfl) (by kernel_rfl) (fun _ _ _ h => h) (Or.inl ⟨by rfl, ?_⟩) hH9 ?_
          rotate_left
          · intro w hSw; (try dsimp only at hSw); go_simp; (try with_reducible rfl)
          simp only [Act.put, List.setIfInBounds_toArray, List.set_cons_zero, List.set_cons_succ]
          refine wpAnyH_ready (rs := [7]) (by kernel_rfl) (by simp) ?_
          refine AllReadyH.cons rfl (fun K hK => ?_) ?_
          · go_simp
            refine hK.out _ _ ?_ (fun hH10 => ?_)
            · exact HS.out _ (XS.out.zx (g := w.heap.size + 1) (cs := [.int .i64 g0, .int .i64 g1, .slice D2 m2 j2, .int .i64 g3, .int .i64 g4_0, .int .i64 g4_1, .slice D5 m5 j5, .slice D6 m6 j6, .int .i64 g7, .int .i64 g8, .int .i64 g9, .int .i64 g10]) (by repeat (first | exact List.mem_cons_self | refine List.mem_cons_of_mem _ ?_)))
            clear hK K hH9
            (try simp only [Act.put, List.setIfInBounds_toArray, List.set_cons_zero, List.set_cons_succ])
            refine wpAnyH_done (by kernel_rfl) ?_ _
            clear HS XD VXD hbd
            replace X : Hid (HeldZ w [(w1.heap.size, [.int .i64 f0, .slice A9 (n1 + 1) c9, .slice B2 n2 k2, .slice B3 n3 k3, .slice B4 n4 k4]), (w.heap.size + 1 + 1, [.int .i64 0, .slice none 0 0, .slice none 0 0, .slice none 0 0, .slice none 0 0]), (w.heap.size + 1, [.int .i64 g0, .int .i64 g1, .slice D2 m2 j2, .int .i64 g3, .int .i64 g4_0, .int .i64 g4_1, .slice D5 m5 j5, .slice D6 m6 j6, .int .i64 g7, .int .i64 g8, .int .i64 g9, .int .i64 g10]), (w.heap.size, [.int .i64 f0, .slice A1 n1 c1, .slice A2 n2 c2, .slice A3 n3 c3, .slice A4 n4 c4])] (w9.setCell ⟨w1.heap.size, 1, none⟩ (.slice A9 (n1 + 1) c9))) := XS
            replace VX := Lib.hid (VX9.out.touch (w' := (w9.setCell ⟨w1.heap.size, 1, none⟩ (.slice A9 (n1 + 1) c9))) ((Touch.refl (fun b => b = w1.heap.size) w9).setCell (p := ⟨w1.heap.size, 1, none⟩) rfl _) (fun b hb e => by rcases hb with hb | hb; have h1 := hb.1; have h2 := hb.2; omega; simp only [World.size_drew] at hb; omega))
            generalize (w9.setCell ⟨w1.heap.size, 1, none⟩ (.slice A9 (n1 + 1) c9)) = w10 at *
            obtain ⟨x0_0, x0_1, x0_2, x0_3, x0_4, x0f⟩ := (X.out.zx (g := w1.heap.size) (cs := [.int .i64 f0, .slice A9 (n1 + 1) c9, .slice B2 n2 k2, .slice B3 n3 k3, .slice B4 n4 k4]) (by repeat (first | exact List.mem_cons_self | refine List.mem_cons_of_mem _ ?_))).d5
            obtain ⟨x1_0, x1_1, x1_2, x1_3, x1_4, x1f⟩ := (X.out.zx (g := w.heap.size + 1 + 1) (cs := [.int .i64 0, .slice none 0 0, .slice none 0 0, .slice none 0 0, .slice none 0 0]) (by repeat (first | exact List.mem_cons_self | refine List.mem_cons_of_mem _ ?_))).d5
            obtain ⟨x2_0, x2_1, x2_2, x2_3, x2_4, x2_5, x2_6, x2_7, x2_8, x2_9, x2_10, x2_11, x2f⟩ := (X.out.zx (g := w.heap.size + 1) (cs := [.int .i64 g0, .int .i64 g1, .slice D2 m2 j2, .int .i64 g3, .int .i64 g4_0, .int .i64 g4_1, .slice D5 m5 j5, .slice D6 m6 j6, .int .i64 g7, .int .i64 g8, .int .i64 g9, .int .i64 g10]) (by repeat (first | exact List.mem_cons_self | refine List.mem_cons_of_mem _ ?_))).d12
            obtain ⟨x3_0, x3_1, x3_2, x3_3, x3_4, x3f⟩ := (X.out.zx (g := w.heap.size) (cs := [.int .i64 f0, .slice A1 n1 c1, .slice A2 n2 c2, .slice A3 n3 c3, .slice A4 n4 c4]) (by repeat (first | exact List.mem_cons_self | refine List.mem_cons_of_mem _ ?_))).d5
            go_wp2_with fail
            have HS5 : Hid (∀ w' : World, Zx (w1.heap.size) [.int .i64 f0, .slice A9 (n1 + 1) c9, .slice B2 n2 k2, .slice B3 n3 k3, .slice B4 n4 k4] w' → Zx w.heap.size [.int .i64 f0, .slice A1 n1 c1, .slice A2 n2 c2, .slice A3 n3 c3, .slice A4 n4 c4] w' → (w'.cell? ⟨w1.heap.size, 0, none⟩ = some (.int .i64 f0) ∧ w'.cell? ⟨w1.heap.size, 1, none⟩ = some (.slice A9 (n1 + 1) c9) ∧ w'.cell? ⟨w1.heap.size, 2, none⟩ = some (.slice B2 n2 k2) ∧ w'.cell? ⟨w1.heap.size, 3, none⟩ = some (.slice B3 n3 k3) ∧ w'.cell? ⟨w1.heap.size, 4, none⟩ = some (.slice B4 n4 k4) ∧ w'.cell? ⟨w.heap.size, 1, none⟩ = some (.slice A1 n1 c1))) := Lib.hid (fun w' h h2 => ⟨h.1.2 0 _ rfl, h.1.2 1 _ rfl, h.1.2 2 _ rfl, h.1.2 3 _ rfl, h.1.2 4 _ rfl, h2.1.2 1 _ rfl⟩)
            have ZO5 := Lib.hid (X.out.zx (g := w1.heap.size) (cs := [.int .i64 f0, .slice A9 (n1 + 1) c9, .slice B2 n2 k2, .slice B3 n3 k3, .slice B4 n4 k4]) (by repeat (first | exact List.mem_cons_self | refine List.mem_cons_of_mem _ ?_)))
            have ZV5 := Lib.hid (X.out.zx (g := w.heap.size) (cs := [.int .i64 f0, .slice A1 n1 c1, .slice A2 n2 c2, .slice A3 n3 c3, .slice A4 n4 c4]) (by repeat (first | exact List.mem_cons_self | refine List.mem_cons_of_mem _ ?_)))
            have ne5 : w.heap.size + 1 + 1 ≠ w1.heap.size := by omega
            have ne6 : w.heap.size + 1 + 1 ≠ w.heap.size := by omega
            refine wp_region_held_drew (S := (fun w' => w'.cell? ⟨w1.heap.size, 0, none⟩ = some (.int .i64 f0) ∧ w'.cell? ⟨w1.heap.size, 1, none⟩ = some (.slice A9 (n1 + 1) c9) ∧ w'.cell? ⟨w1.heap.size, 2, none⟩ = some (.slice B2 n2 k2) ∧ w'.cell? ⟨w1.heap.size, 3, none⟩ = some (.slice B3 n3 k3) ∧ w'.cell? ⟨w1.heap.size, 4, none⟩ = some (.slice B4 n4 k4) ∧ w'.cell? ⟨w.heap.size, 1, none⟩ = some (.slice A1 n1 c1))) (by kernel_rfl) ?_ (fun hH0 => ?_)
            · exact HS5.out _ (ZO5.out.below (Below.refl _ _).drew) (ZV5.out.below (Below.refl _ _).drew)
            refine wpAnyH_take (i := 0) (v := ?_) rfl (by kernel_rfl) (by kernel_rfl) (by kernel_rfl) (fun _ _ _ h => h) (Or.inl ⟨by rfl, ?_⟩) hH0 ?_
            rotate_left
            · intro w hSw; (try dsimp only at hSw); go_simp; (try with_reducible rfl)
            simp only [Act.put, List.setIfInBounds_toArray, List.set_cons_zero, List.set_cons_succ]
            refine wpAnyH_take (i := 1) (v := ?_) rfl (by kernel_rfl) (by kernel_rfl) (by kernel_rfl) (fun _ _ _ h => h) (Or.inl ⟨by rfl, ?_⟩) hH0 ?_
            rotate_left
            · intro w hSw; (try dsimp only at hSw); go_simp; (try with_reducible rfl)
            simp only [Act.put, List.setIfInBounds_toArray, List.set_cons_zero, List.set_cons_succ]
            refine wpAnyH_take (i := 2) (v := ?_) rfl (by kernel_rfl) (by kernel_rfl) (by kernel_rfl) (fun _ _ _ h => h) (Or.inl ⟨by rfl, ?_⟩) hH0 ?_
            rotate_left
            · intro w hSw; (try dsimp only at hSw); go_simp; (try with_reducible rfl)
            simp only [Act.put, List.setIfInBounds_toArray, List.set_cons_zero, List.set_cons_succ]
            refine wpAnyH_ready (rs := [3, 4]) (by kernel_rfl) (by simp) ?_
            refine AllReadyH.cons rfl (fun K hK => ?_) ?_
            · go_simp
              refine hK.out _ _ ?_ (fun hH1 => ?_)
              · exact HS5.out _ (ZO5.out.below (Below.refl _ _).drew) (ZV5.out.below (Below.refl _ _).drew)
              clear hK K hH0
              (try simp only [Act.put, List.setIfInBounds_toArray, List.set_cons_zero, List.set_cons_succ])
              refine wpAnyH_ready (rs := [4]) (by kernel_rfl) (by simp) ?_
              refine AllReadyH.cons rfl (fun K hK => ?_) ?_
              · go_simp
                refine hK.out _ _ ?_ (fun hH2 => ?_)
                · exact HS5.out _ ((((((ZO5.out.far ne5).far ne5).far ne5).far ne5).far ne5).below (Below.refl _ _).drew) ((((((ZV5.out.far ne6).far ne6).far ne6).far ne6).far ne6).below (Below.refl _ _).drew)
                clear hK K hH1
                (try simp only [Act.put, List.setIfInBounds_toArray, List.set_cons_zero, List.set_cons_succ])
                refine wpAnyH_take (i := 5) (oi := { dst := some 5, op := Op.assign (Operand.tmp 24), type := _, pos := _, after := _, guard := _ }) (v := ?_) rfl (by kernel_rfl) (by kernel_rfl) (by kernel_rfl) (fun _ _ _ h => h) (Or.inl ⟨by rfl, ?_⟩) hH2 ?_
                rotate_left
                · intro w hSw; (try dsimp only at hSw); go_simp; (try with_reducible rfl)
                simp only [Act.put, List.setIfInBounds_toArray, List.set_cons_zero, List.set_cons_succ]
                refine wpAnyH_done (by kernel_rfl) ?_ _
                go_wp2_with fail
                refine bodyPost_ret (v := .tuple #[.agg #[.int .i64 f0, .slice A9 (n1 + 1) c9, .slice B2 n2 k2, .slice B3 n3 k3, .slice B4 n4 k4], .int .i64 ((n1 : Int))]) ?hres rfl ?hpost
                case hres => exact results_box2 rfl _ _ (w.heap.size + 1 + 1) [.int .i64 f0, .slice A9 (n1 + 1) c9, .slice B2 n2 k2, .slice B3 n3 k3, .slice B4 n4 k4] _ _ rfl rfl ((((((((X.out.zx (g := w.heap.size + 1 + 1) (cs := [.int .i64 0, .slice none 0 0, .slice none 0 0, .slice none 0 0, .slice none 0 0]) (by repeat (first | exact List.mem_cons_self | refine List.mem_cons_of_mem _ ?_))).1).put 0 _).put 1 _).put 2 _).put 3 _).put 4 _).below (Below.refl _ _).drew) Try.underlying29 rfl (by kernel_rfl)
                case hpost =>
                  suffices h9 : ∀ w' : World, Touch (fun b => b = w.heap.size + 1 + 1) w10 w' → GivesVtI f0 (L1 ++ [.r [.i g0, .i g1, .l M2, .i g3, .r [.i g4_0, .i g4_1], .l M5, .l M6, .i g7, .i g8, .i g9, .i g10]]) (n1 + 1) L2 n2 L3 n3 L4 n4 ((n1 : Int)) w (.returned (.tuple #[.agg #[.int .i64 f0, .slice A9 (n1 + 1) c9, .slice B2 n2 k2, .slice B3 n3 k3, .slice B4 n4 k4], .int .i64 ((n1 : Int))])) w' from h9 _ (((((((Touch.refl (fun b => b = w.heap.size + 1 + 1) w10).setCell (p := ⟨w.heap.size + 1 + 1, 0, none⟩) rfl _).setCell (p := ⟨w.heap.size + 1 + 1, 1, none⟩) rfl _).setCell (p := ⟨w.heap.size + 1 + 1, 2, none⟩) rfl _).setCell (p := ⟨w.heap.size + 1 + 1, 3, none⟩) rfl _).setCell (p := ⟨w.heap.size + 1 + 1, 4, none⟩) rfl _).trans (Touch.of_below (Below.refl _ _).drew))
                  intro w' hT
                  exact ⟨A9, c9, B2, k2, B3, k3, B4, k4, rfl, ((VX.out.touch hT (fun b hb e => by rcases hb with hb | hb; have h1 := hb.1; omega; simp only [World.size_drew] at hb; omega)).mono (P' := fun b => w.heap.size ≤ b) (fun b hb => by rcases hb with hb | hb; have h1 := hb.1; omega; simp only [World.size_drew] at hb; omega)).rng, X.out.1.trans (hT.below (fun b e => by omega) X.out.1.size)⟩
              exact AllReadyH.nil
            refine AllReadyH.cons rfl (fun K hK => ?_) ?_
            · go_simp
              refine hK.out _ _ ?_ (fun hH3 => ?_)
              · exact HS5.out _ ((((((ZO5.out.far ne5).far ne5).far ne5).far ne5).far ne5).below (Below.refl _ _).drew) ((((((ZV5.out.far ne6).far ne6).far ne6).far ne6).far ne6).below (Below.refl _ _).drew)
              clear hK K hH0
              (try simp only [Act.put, List.setIfInBounds_toArray, List.set_cons_zero, List.set_cons_succ])
              refine wpAnyH_ready (rs := [3]) (by kernel_rfl) (by simp) ?_
              refine AllReadyH.cons rfl (fun K hK => ?_) ?_
              · go_simp
                refine hK.out _ _ ?_ (fun hH4 => ?_)
                · exact HS5.out _ ((((((ZO5.out.far ne5).far ne5).far ne5).far ne5).far ne5).below (Below.refl _ _).drew) ((((((ZV5.out.far ne6).far ne6).far ne6).far ne6).far ne6).below (Below.refl _ _).drew)
                clear hK K hH3
                (try simp only [Act.put, List.setIfInBounds_toArray, List.set_cons_zero, List.set_cons_succ])
                refine wpAnyH_take (i := 5) (oi := { dst := some 5, op := Op.assign (Operand.tmp 24), type := _, pos := _, after := _, guard := _ }) (v := ?_) rfl (by kernel_rfl) (by kernel_rfl) (by kernel_rfl) (fun _ _ _ h => h) (Or.inl ⟨by rfl, ?_⟩) hH4 ?_
                rotate_left
                · intro w hSw; (try dsimp only at hSw); go_simp; (try with_reducible rfl)
                simp only [Act.put, List.setIfInBounds_toArray, List.set_cons_zero, List.set_cons_succ]
                refine wpAnyH_done (by kernel_rfl) ?_ _
                go_wp2_with fail
                refine bodyPost_ret (v := .tuple #[.agg #[.int .i64 f0, .slice A9 (n1 + 1) c9, .slice B2 n2 k2, .slice B3 n3 k3, .slice B4 n4 k4], .int .i64 ((n1 : Int))]) ?hres rfl ?hpost
                case hres => exact results_box2 rfl _ _ (w.heap.size + 1 + 1) [.int .i64 f0, .slice A9 (n1 + 1) c9, .slice B2 n2 k2, .slice B3 n3 k3, .slice B4 n4 k4] _ _ rfl rfl ((((((((X.out.zx (g := w.heap.size + 1 + 1) (cs := [.int .i64 0, .slice none 0 0, .slice none 0 0, .slice none 0 0, .slice none 0 0]) (by repeat (first | exact List.mem_cons_self | refine List.mem_cons_of_mem _ ?_))).1).put 0 _).put 1 _).put 2 _).put 3 _).put 4 _).below (Below.refl _ _).drew) Try.underlying29 rfl (by kernel_rfl)
                case hpost =>
                  suffices h9 : ∀ w' : World, Touch (fun b => b = w.heap.size + 1 + 1) w10 w' → GivesVtI f0 (L1 ++ [.r [.i g0, .i g1, .l M2, .i g3, .r [.i g4_0, .i g4_1], .l M5, .l M6, .i g7, .i g8, .i g9, .i g10]]) (n1 + 1) L2 n2 L3 n3 L4 n4 ((n1 : Int)) w (.returned (.tuple #[.agg #[.int .i64 f0, .slice A9 (n1 + 1) c9, .slice B2 n2 k2, .slice B3 n3 k3, .slice B4 n4 k4], .int .i64 ((n1 : Int))])) w' from h9 _ (((((((Touch.refl (fun b => b = w.heap.size + 1 + 1) w10).setCell (p := ⟨w.heap.size + 1 + 1, 0, none⟩) rfl _).setCell (p := ⟨w.heap.size + 1 + 1, 1, none⟩) rfl _).setCell (p := ⟨w.heap.size + 1 + 1, 2, none⟩) rfl _).setCell (p := ⟨w.heap.size + 1 + 1, 3, none⟩) rfl _).setCell (p := ⟨w.heap.size + 1 + 1, 4, none⟩) rfl _).trans (Touch.of_below (Below.refl _ _).drew))
                  intro w' hT
                  exact ⟨A9, c9, B2, k2, B3, k3, B4, k4, rfl, ((VX.out.touch hT (fun b hb e => by rcases hb with hb | hb; have h1 := hb.1; omega; simp only [World.size_drew] at hb; omega)).mono (P' := fun b => w.heap.size ≤ b) (fun b hb => by rcases hb with hb | hb; have h1 := hb.1; omega; simp only [World.size_drew] at hb; omega)).rng, X.out.1.trans (hT.below (fun b e => by omega) X.out.1.size)⟩
              exact AllReadyH.nil
            exact AllReadyH.nil
          exact AllReadyH.nil
        exact AllReadyH.nil
      exact AllReadyH.nil
    refine AllReadyH.cons rfl (fun K hK => ?_) ?_
    · go_simp
      refine hK.out _ _ ?_ (fun hH11 => ?_)
      · exact HS.out _ (XL.out.zx (g := w.heap.size + 1) (cs := [.int .i64 g0, .int .i64 g1, .slice D2 m2 j2, .int .i64 g3, .int .i64 g4_0, .int .i64 g4_1, .slice D5 m5 j5, .slice D6 m6 j6, .int .i64 g7, .int .i64 g8, .int .i64 g9, .int .i64 g10]) (by repeat (first | exact List.mem_cons_self | refine List.mem_cons_of_mem _ ?_)))
      clear hK K hH6
      (try simp only [Act.put, List.setIfInBounds_toArray, List.set_cons_zero, List.set_cons_succ])
      refine wpAnyH_ready (rs := [1]) (by kernel_rfl) (by simp) ?_
      refine AllReadyH.cons rfl (fun K hK => ?_) ?_
      · go_simp
        refine hK.out _ _ ?_ (fun hH12 => ?_)
        · exact HS.out _ (XL.out.zx (g := w.heap.size + 1) (cs := [.int .i64 g0, .int .i64 g1, .slice D2 m2 j2, .int .i64 g3, .int .i64 g4_0, .int .i64 g4_1, .slice D5 m5 j5, .slice D6 m6 j6, .int .i64 g7, .int .i64 g8, .int .i64 g9, .int .i64 g10]) (by repeat (first | exact List.mem_cons_self | refine List.mem_cons_of_mem _ ?_)))
        clear hK K hH11
        (try simp only [Act.put, List.setIfInBounds_toArray, List.set_cons_zero, List.set_cons_succ])
        refine wpAnyH_ready (rs := [5]) (by kernel_rfl) (by simp) ?_
        refine AllReadyH.cons rfl (fun K hK => ?_) ?_
        · (refine step_append_dat _ rfl _ _ 24 rfl 12 (by omega) 38 i1 _ 144 Try.underlying24 hj1 hx1 hy1 rfl hz1 0 B1 n1 k1 L1 Bg rfl HG.out (some ⟨w8.heap.size, 0, none⟩) 1 1 [.r [.i g0, .i g1, .l M2, .i g3, .r [.i g4_0, .i g4_1], .l M5, .l M6, .i g7, .i g8, .i g9, .i g10]] (rng w2.drew.heap.size w8.heap.size) rfl (Src.lit rfl HO.out rfl (fun b hb => hb.2)) (fun b hb hb2 => by have h1 := (HGB.out b hb).2; have h2 := hb2.1; omega) (fun a e hb2 => by have h1 := (HGA.out a e).2; have h2 := hb2.1; omega) (by unfold maxLen; omega) (by omega) (Nat.zero_le _) ?_; intro A9 c9 w9 hG9 hT9 hA9; (have VX9 := Lib.hid (HBK.out w9 A9 _ c9 _ _ hG9 hT9 hA9 (fun b hb => hb.1))); (have X9 := Lib.hid (XL.out.touch hT9 (fun b ⟨a, e9, hb9⟩ => by have h1 := (HGA.out a e9).1.1; omega) (fun p hp ⟨a, e9, hb9⟩ => by have h1 := (HGA.out a e9).1.1; have h2 := (HGA.out a e9).1.2; simp only [List.mem_cons, List.not_mem_nil, or_false] at hp; rcases hp with rfl | rfl | rfl | rfl <;> (simp only at hb9) <;> omega))); clear hG9 hT9 hA9; (have XS := Lib.hid (X9.out.put (fun p hp => by simp only [List.mem_cons, List.not_mem_nil, or_false] at hp; rcases hp with rfl | rfl | rfl <;> (show (_ : Nat) ≠ _) <;> omega) 1 (.slice A9 (n1 + 1) c9))); (obtain ⟨v0, v1, v2, v3, v4, fv⟩ := (X9.out.zx (g := w1.heap.size) (cs := [.int .i64 f0, .slice B1 n1 k1, .slice B2 n2 k2, .slice B3 n3 k3, .slice B4 n4 k4]) (by repeat (first | exact List.mem_cons_self | refine List.mem_cons_of_mem _ ?_))).d5))
          refine hK.out _ _ ?_ (fun hH13 => ?_)
          · exact HS.out _ (X9.out.zx (g := w.heap.size + 1) (cs := [.int .i64 g0, .int .i64 g1, .slice D2 m2 j2, .int .i64 g3, .int .i64 g4_0, .int .i64 g4_1, .slice D5 m5 j5, .slice D6 m6 j6, .int .i64 g7, .int .i64 g8, .int .i64 g9, .int .i64 g10]) (by repeat (first | exact List.mem_cons_self | refine List.mem_cons_of_mem _ ?_)))
          clear hK K hH12
          (try simp only [Act.put, List.setIfInBounds_toArray, List.set_cons_zero, List.set_cons_succ])
          refine wpAnyH_take (i := 6) (v := ?_) rfl (by kernel_rfl) (by kernel_rfl) (by kernel_rfl) (fun _ _ _ h => h) (Or.inl ⟨by rfl, ?_⟩) hH13 ?_
          rotate_left
          · intro w hSw; (try dsimp only at hSw); go_simp; (try with_reducible rfl)
          simp only [Act.put, List.setIfInBounds_toArray, List.set_cons_zero, List.set_cons_succ]
          refine wpAnyH_ready (rs := [7]) (by kernel_rfl) (by simp) ?_
          refine AllReadyH.cons rfl (fun K hK => ?_) ?_
          · go_simp
            refine hK.out _ _ ?_ (fun hH14 => ?_)
            · exact HS.out _ (XS.out.zx (g := w.heap.size + 1) (cs := [.int .i64 g0, .int .i64 g1, .slice D2 m2 j2, .int .i64 g3, .int .i64 g4_0, .int .i64 g4_1, .slice D5 m5 j5, .slice D6 m6 j6, .int .i64 g7, .int .i64 g8, .int .i64 g9, .int .i64 g10]) (by repeat (first | exact List.mem_cons_self | refine List.mem_cons_of_mem _ ?_)))
            clear hK K hH13
            (try simp only [Act.put, List.setIfInBounds_toArray, List.set_cons_zero, List.set_cons_succ])
            refine wpAnyH_done (by kernel_rfl) ?_ _
            clear HS XD VXD hbd
            replace X : Hid (HeldZ w [(w1.heap.size, [.int .i64 f0, .slice A9 (n1 + 1) c9, .slice B2 n2 k2, .slice B3 n3 k3, .slice B4 n4 k4]), (w.heap.size + 1 + 1, [.int .i64 0, .slice none 0 0, .slice none 0 0, .slice none 0 0, .slice none 0 0]), (w.heap.size + 1, [.int .i64 g0, .int .i64 g1, .slice D2 m2 j2, .int .i64 g3, .int .i64 g4_0, .int .i64 g4_1, .slice D5 m5 j5, .slice D6 m6 j6, .int .i64 g7, .int .i64 g8, .int .i64 g9, .int .i64 g10]), (w.heap.size, [.int .i64 f0, .slice A1 n1 c1, .slice A2 n2 c2, .slice A3 n3 c3, .slice A4 n4 c4])] (w9.setCell ⟨w1.heap.size, 1, none⟩ (.slice A9 (n1 + 1) c9))) := XS
            replace VX := Lib.hid (VX9.out.touch (w' := (w9.setCell ⟨w1.heap.size, 1, none⟩ (.slice A9 (n1 + 1) c9))) ((Touch.refl (fun b => b = w1.heap.size) w9).setCell (p := ⟨w1.heap.size, 1, none⟩) rfl _) (fun b hb e => by rcases hb with hb | hb; have h1 := hb.1; have h2 := hb.2; omega; simp only [World.size_drew] at hb; omega))
            generalize (w9.setCell ⟨w1.heap.size, 1, none⟩ (.slice A9 (n1 + 1) c9)) = w10 at *
            obtain ⟨x0_0, x0_1, x0_2, x0_3, x0_4, x0f⟩ := (X.out.zx (g := w1.heap.size) (cs := [.int .i64 f0, .slice A9 (n1 + 1) c9, .slice B2 n2 k2, .slice B3 n3 k3, .slice B4 n4 k4]) (by repeat (first | exact List.mem_cons_self | refine List.mem_cons_of_mem _ ?_))).d5
            obtain ⟨x1_0, x1_1, x1_2, x1_3, x1_4, x1f⟩ := (X.out.zx (g := w.heap.size + 1 + 1) (cs := [.int .i64 0, .slice none 0 0, .slice none 0 0, .slice none 0 0, .slice none 0 0]) (by repeat (first | exact List.mem_cons_self | refine List.mem_cons_of_mem _ ?_))).d5
            obtain ⟨x2_0, x2_1, x2_2, x2_3, x2_4, x2_5, x2_6, x2_7, x2_8, x2_9, x2_10, x2_11, x2f⟩ := (X.out.zx (g := w.heap.size + 1) (cs := [.int .i64 g0, .int .i64 g1, .slice D2 m2 j2, .int .i64 g3, .int .i64 g4_0, .int .i64 g4_1, .slice D5 m5 j5, .slice D6 m6 j6, .int .i64 g7, .int .i64 g8, .int .i64 g9, .int .i64 g10]) (by repeat (first | exact List.mem_cons_self | refine List.mem_cons_of_mem _ ?_))).d12
            obtain ⟨x3_0, x3_1, x3_2, x3_3, x3_4, x3f⟩ := (X.out.zx (g := w.heap.size) (cs := [.int .i64 f0, .slice A1 n1 c1, .slice A2 n2 c2, .slice A3 n3 c3, .slice A4 n4 c4]) (by repeat (first | exact List.mem_cons_self | refine List.mem_cons_of_mem _ ?_))).d5
            go_wp2_with fail
            have HS5 : Hid (∀ w' : World, Zx (w1.heap.size) [.int .i64 f0, .slice A9 (n1 + 1) c9, .slice B2 n2 k2, .slice B3 n3 k3, .slice B4 n4 k4] w' → Zx w.heap.size [.int .i64 f0, .slice A1 n1 c1, .slice A2 n2 c2, .slice A3 n3 c3, .slice A4 n4 c4] w' → (w'.cell? ⟨w1.heap.size, 0, none⟩ = some (.int .i64 f0) ∧ w'.cell? ⟨w1.heap.size, 1, none⟩ = some (.slice A9 (n1 + 1) c9) ∧ w'.cell? ⟨w1.heap.size, 2, none⟩ = some (.slice B2 n2 k2) ∧ w'.cell? ⟨w1.heap.size, 3, none⟩ = some (.slice B3 n3 k3) ∧ w'.cell? ⟨w1.heap.size, 4, none⟩ = some (.slice B4 n4 k4) ∧ w'.cell? ⟨w.heap.size, 1, none⟩ = some (.slice A1 n1 c1))) := Lib.hid (fun w' h h2 => ⟨h.1.2 0 _ rfl, h.1.2 1 _ rfl, h.1.2 2 _ rfl, h.1.2 3 _ rfl, h.1.2 4 _ rfl, h2.1.2 1 _ rfl⟩)
            have ZO5 := Lib.hid (X.out.zx (g := w1.heap.size) (cs := [.int .i64 f0, .slice A9 (n1 + 1) c9, .slice B2 n2 k2, .slice B3 n3 k3, .slice B4 n4 k4]) (by repeat (first | exact List.mem_cons_self | refine List.mem_cons_of_mem _ ?_)))
            have ZV5 := Lib.hid (X.out.zx (g := w.heap.size) (cs := [.int .i64 f0, .slice A1 n1 c1, .slice A2 n2 c2, .slice A3 n3 c3, .slice A4 n4 c4]) (by repeat (first | exact List.mem_cons_self | refine List.mem_cons_of_mem _ ?_)))
            have ne5 : w.heap.size + 1 + 1 ≠ w1.heap.size := by omega
            have ne6 : w.heap.size + 1 + 1 ≠ w.heap.size := by omega
            refine wp_region_held_drew (S := (fun w' => w'.cell? ⟨w1.heap.size, 0, none⟩ = some (.int .i64 f0) ∧ w'.cell? ⟨w1.heap.size, 1, none⟩ = some (.slice A9 (n1 + 1) c9) ∧ w'.cell? ⟨w1.heap.size, 2, none⟩ = some (.slice B2 n2 k2) ∧ w'.cell? ⟨w1.heap.size, 3, none⟩ = some (.slice B3 n3 k3) ∧ w'.cell? ⟨w1.heap.size, 4, none⟩ = some (.slice B4 n4 k4) ∧ w'.cell? ⟨w.heap.size, 1, none⟩ = some (.slice A1 n1 c1))) (by kernel_rfl) ?_ (fun hH0 => ?_)
            · exact HS5.out _ (ZO5.out.below (Below.refl _ _).drew) (ZV5.out.below (Below.refl _ _).drew)
            refine wpAnyH_take (i := 0) (v := ?_) rfl (by kernel_rfl) (by kernel_rfl) (by kernel_rfl) (fun _ _ _ h => h) (Or.inl ⟨by rfl, ?_⟩) hH0 ?_
            rotate_left
            · intro w hSw; (try dsimp only at hSw); go_simp; (try with_reducible rfl)
            simp only [Act.put, List.setIfInBounds_toArray, List.set_cons_zero, List.set_cons_succ]
            refine wpAnyH_take (i := 1) (v := ?_) rfl (by kernel_rfl) (by kernel_rfl) (by kernel_rfl) (fun _ _ _ h => h) (Or.inl ⟨by rfl, ?_⟩) hH0 ?_
            rotate_left
            · intro w hSw; (try dsimp only at hSw); go_simp; (try with_reducible rfl)
            simp only [Act.put, List.setIfInBounds_toArray, List.set_cons_zero, List.set_cons_succ]
            refine wpAnyH_take (i := 2) (v := ?_) rfl (by kernel_rfl) (by kernel_rfl) (by kernel_rfl) (fun _ _ _ h => h) (Or.inl ⟨by rfl, ?_⟩) hH0 ?_
            rotate_left
            · intro w hSw; (try dsimp only at hSw); go_simp; (try with_reducible rfl)
            simp only [Act.put, List.setIfInBounds_toArray, List.set_cons_zero, List.set_cons_succ]
            refine wpAnyH_ready (rs := [3, 4]) (by kernel_rfl) (by simp) ?_
            refine AllReadyH.cons rfl (fun K hK => ?_) ?_
            · go_simp
              refine hK.out _ _ ?_ (fun hH1 => ?_)
              · exact HS5.out _ (ZO5.out.below (Below.refl _ _).drew) (ZV5.out.below (Below.refl _ _).drew)
              clear hK K hH0
              (try simp only [Act.put, List.setIfInBounds_toArray, List.set_cons_zero, List.set_cons_succ])
              refine wpAnyH_ready (rs := [4]) (by kernel_rfl) (by simp) ?_
              refine AllReadyH.cons rfl (fun K hK => ?_) ?_
              · go_simp
                refine hK.out _ _ ?_ (fun hH2 => ?_)
                · exact HS5.out _ ((((((ZO5.out.far ne5).far ne5).far ne5).far ne5).far ne5).below (Below.refl _ _).drew) ((((((ZV5.out.far ne6).far ne6).far ne6).far ne6).far ne6).below (Below.refl _ _).drew)
                clear hK K hH1
                (try simp only [Act.put, List.setIfInBounds_toArray, List.set_cons_zero, List.set_cons_succ])
                refine wpAnyH_take (i := 5) (oi := { dst := some 5, op := Op.assign (Operand.tmp 24), type := _, pos := _, after := _, guard := _ }) (v := ?_) rfl (by kernel_rfl) (by kernel_rfl) (by kernel_rfl) (fun _ _ _ h => h) (Or.inl ⟨by rfl, ?_⟩) hH2 ?_
                rotate_left
                · intro w hSw; (try dsimp only at hSw); go_simp; (try with_reducible rfl)
                simp only [Act.put, List.setIfInBounds_toArray, List.set_cons_zero, List.set_cons_succ]
                refine wpAnyH_done (by kernel_rfl) ?_ _
                go_wp2_with fail
                refine bodyPost_ret (v := .tuple #[.agg #[.int .i64 f0, .slice A9 (n1 + 1) c9, .slice B2 n2 k2, .slice B3 n3 k3, .slice B4 n4 k4], .int .i64 ((n1 : Int))]) ?hres rfl ?hpost
                case hres => exact results_box2 rfl _ _ (w.heap.size + 1 + 1) [.int .i64 f0, .slice A9 (n1 + 1) c9, .slice B2 n2 k2, .slice B3 n3 k3, .slice B4 n4 k4] _ _ rfl rfl ((((((((X.out.zx (g := w.heap.size + 1 + 1) (cs := [.int .i64 0, .slice none 0 0, .slice none 0 0, .slice none 0 0, .slice none 0 0]) (by repeat (first | exact List.mem_cons_self | refine List.mem_cons_of_mem _ ?_))).1).put 0 _).put 1 _).put 2 _).put 3 _).put 4 _).below (Below.refl _ _).drew) Try.underlying29 rfl (by kernel_rfl)
                case hpost =>
                  suffices h9 : ∀ w' : World, Touch (fun b => b = w.heap.size + 1 + 1) w10 w' → GivesVtI f0 (L1 ++ [.r [.i g0, .i g1, .l M2, .i g3, .r [.i g4_0, .i g4_1], .l M5, .l M6, .i g7, .i g8, .i g9, .i g10]]) (n1 + 1) L2 n2 L3 n3 L4 n4 ((n1 : Int)) w (.returned (.tuple #[.agg #[.int .i64 f0, .slice A9 (n1 + 1) c9, .slice B2 n2 k2, .slice B3 n3 k3, .slice B4 n4 k4], .int .i64 ((n1 : Int))])) w' from h9 _ (((((((Touch.refl (fun b => b = w.heap.size + 1 + 1) w10).setCell (p := ⟨w.heap.size + 1 + 1, 0, none⟩) rfl _).setCell (p := ⟨w.heap.size + 1 + 1, 1, none⟩) rfl _).setCell (p := ⟨w.heap.size + 1 + 1, 2, none⟩) rfl _).setCell (p := ⟨w.heap.size + 1 + 1, 3, none⟩) rfl _).setCell (p := ⟨w.heap.size + 1 + 1, 4, none⟩) rfl _).trans (Touch.of_below (Below.refl _ _).drew))
                  intro w' hT
                  exact ⟨A9, c9, B2, k2, B3, k3, B4, k4, rfl, ((VX.out.touch hT (fun b hb e => by rcases hb with hb | hb; have h1 := hb.1; omega; simp only [World.size_drew] at hb; omega)).mono (P' := fun b => w.heap.size ≤ b) (fun b hb => by rcases hb with hb | hb; have h1 := hb.1; omega; simp only [World.size_drew] at hb; omega)).rng, X.out.1.trans (hT.below (fun b e => by omega) X.out.1.size)⟩
              exact AllReadyH.nil
            refine AllReadyH.cons rfl (fun K hK => ?_) ?_
            · go_simp
              refine hK.out _ _ ?_ (fun hH3 => ?_)
              · exact HS5.out _ ((((((ZO5.out.far ne5).far ne5).far ne5).far ne5).far ne5).below (Below.refl _ _).drew) ((((((ZV5.out.far ne6).far ne6).far ne6).far ne6).far ne6).below (Below.refl _ _).drew)
              clear hK K hH0
              (try simp only [Act.put, List.setIfInBounds_toArray, List.set_cons_zero, List.set_cons_succ])
              refine wpAnyH_ready (rs := [3]) (by kernel_rfl) (by simp) ?_
              refine AllReadyH.cons rfl (fun K hK => ?_) ?_
              · go_simp
                refine hK.out _ _ ?_ (fun hH4 => ?_)
                · exact HS5.out _ ((((((ZO5.out.far ne5).far ne5).far ne5).far ne5).far ne5).below (Below.refl _ _).drew) ((((((ZV5.out.far ne6).far ne6).far ne6).far ne6).far ne6).below (Below.refl _ _).drew)
                clear hK K hH3
                (try simp only [Act.put, List.setIfInBounds_toArray, List.set_cons_zero, List.set_cons_succ])
                refine wpAnyH_take (i := 5) (oi := { dst := some 5, op := Op.assign (Operand.tmp 24), type := _, pos := _, after := _, guard := _ }) (v := ?_) rfl (by kernel_rfl) (by kernel_rfl) (by kernel_rfl) (fun _ _ _ h => h) (Or.inl ⟨by rfl, ?_⟩) hH4 ?_
                rotate_left
                · intro w hSw; (try dsimp only at hSw); go_simp; (try with_reducible rfl)
                simp only [Act.put, List.setIfInBounds_toArray, List.set_cons_zero, List.set_cons_succ]
                refine wpAnyH_done (by kernel_rfl) ?_ _
                go_wp2_with fail
                refine bodyPost_ret (v := .tuple #[.agg #[.int .i64 f0, .slice A9 (n1 + 1) c9, .slice B2 n2 k2, .slice B3 n3 k3, .slice B4 n4 k4], .int .i64 ((n1 : Int))]) ?hres rfl ?hpost
                case hres => exact results_box2 rfl _ _ (w.heap.size + 1 + 1) [.int .i64 f0, .slice A9 (n1 + 1) c9, .slice B2 n2 k2, .slice B3 n3 k3, .slice B4 n4 k4] _ _ rfl rfl ((((((((X.out.zx (g := w.heap.size + 1 + 1) (cs := [.int .i64 0, .slice none 0 0, .slice none 0 0, .slice none 0 0, .slice none 0 0]) (by repeat (first | exact List.mem_cons_self | refine List.mem_cons_of_mem _ ?_))).1).put 0 _).put 1 _).put 2 _).put 3 _).put 4 _).below (Below.refl _ _).drew) Try.underlying29 rfl (by kernel_rfl)
                case hpost =>
                  suffices h9 : ∀ w' : World, Touch (fun b => b = w.heap.size + 1 + 1) w10 w' → GivesVtI f0 (L1 ++ [.r [.i g0, .i g1, .l M2, .i g3, .r [.i g4_0, .i g4_1], .l M5, .l M6, .i g7, .i g8, .i g9, .i g10]]) (n1 + 1) L2 n2 L3 n3 L4 n4 ((n1 : Int)) w (.returned (.tuple #[.agg #[.int .i64 f0, .slice A9 (n1 + 1) c9, .slice B2 n2 k2, .slice B3 n3 k3, .slice B4 n4 k4], .int .i64 ((n1 : Int))])) w' from h9 _ (((((((Touch.refl (fun b => b = w.heap.size + 1 + 1) w10).setCell (p := ⟨w.heap.size + 1 + 1, 0, none⟩) rfl _).setCell (p := ⟨w.heap.size + 1 + 1, 1, none⟩) rfl _).setCell (p := ⟨w.heap.size + 1 + 1, 2, none⟩) rfl _).setCell (p := ⟨w.heap.size + 1 + 1, 3, none⟩) rfl _).setCell (p := ⟨w.heap.size + 1 + 1, 4, none⟩) rfl _).trans (Touch.of_below (Below.refl _ _).drew))
                  intro w' hT
                  exact ⟨A9, c9, B2, k2, B3, k3, B4, k4, rfl, ((VX.out.touch hT (fun b hb e => by rcases hb with hb | hb; have h1 := hb.1; omega; simp only [World.size_drew] at hb; omega)).mono (P' := fun b => w.heap.size ≤ b) (fun b hb => by rcases hb with hb | hb; have h1 := hb.1; omega; simp only [World.size_drew] at hb; omega)).rng, X.out.1.trans (hT.below (fun b e => by omega) X.out.1.size)⟩
              exact AllReadyH.nil
            exact AllReadyH.nil
          exact AllReadyH.nil
        exact AllReadyH.nil
      exact AllReadyH.nil
    exact AllReadyH.nil
  exact AllReadyH.nil
end Go.Proofs.Ytmeacgpebpfpbaa
end
section
namespace Go.Proofs.Ytmeacgpebpfpbaa
open Go.RowKit
set_option linter.unusedVariables false
set_option linter.unusedSimpArgs false
set_option maxRecDepth 100000 in
set_option maxHeartbeats 16000000 in
theorem specAddFull (f0 : Int) (L1 : List Dat) (A1 : Option Addr) (n1 c1 : Nat) (L2 : List Dat) (A2 : Option Addr) (n2 c2 : Nat) (L3 : List Dat) (A3 : Option Addr) (n3 c3 : Nat) (L4 : List Dat) (A4 : Option Addr) (n4 c4 : Nat) (g0 : Int) (g1 : Int) (M2 : List Dat) (D2 : Option Addr) (m2 j2 : Nat) (g3 : Int) (g4_0 : Int) (g4_1 : Int) (M5 : List Dat) (D5 : Option Addr) (m5 j5 : Nat) (M6 : List Dat) (D6 : Option Addr) (m6 j6 : Nat) (g7 : Int) (g8 : Int) (g9 : Int) (g10 : Int) (w : World) (hl1 : Lies w (.l L1) [.slice A1 n1 c1]) (ht1 : ∀ x ∈ L1, Has tyEntity x) (hq1 : (Dat.l L1).bulk ≤ 549755813888) (hl2 : Lies w (.l L2) [.slice A2 n2 c2]) (ht2 : ∀ x ∈ L2, Has tySent x) (hq2 : (Dat.l L2).bulk ≤ 549755813888) (hl3 : Lies w (.l L3) [.slice A3 n3 c3]) (ht3 : ∀ x ∈ L3, Has tyLink x) (hq3 : (Dat.l L3).bulk ≤ 549755813888) (hl4 : Lies w (.l L4) [.slice A4 n4 c4]) (ht4 : ∀ x ∈ L4, Has tyOutgoing x) (hq4 : (Dat.l L4).bulk ≤ 549755813888) (he2 : Lies w (.l M2) [.slice D2 m2 j2]) (hf2 : ∀ x ∈ M2, Has tyValue x) (hu2 : (Dat.l M2).bulk ≤ 549755813888) (he5 : Lies w (.l M5) [.slice D5 m5 j5]) (hf5 : ∀ x ∈ M5, Has tySent x) (hu5 : (Dat.l M5).bulk ≤ 549755813888) (he6 : Lies w (.l M6) [.slice D6 m6 j6]) (hf6 : ∀ x ∈ M6, Has tyAsker x) (hu6 : (Dat.l M6).bulk ≤ 549755813888) (h200 : 200 ≤ n1) :
    Calls Try.prog 36 #[.agg #[.int .i64 f0, .slice A1 n1 c1, .slice A2 n2 c2, .slice A3 n3 c3, .slice A4 n4 c4], .agg #[.int .i64 g0, .int .i64 g1, .slice D2 m2 j2, .int .i64 g3, .int .i64 g4_0, .int .i64 g4_1, .slice D5 m5 j5, .slice D6 m6 j6, .int .i64 g7, .int .i64 g8, .int .i64 g9, .int .i64 g10]] w (GivesVtI f0 L1 n1 L2 n2 L3 n3 L4 n4 (-1) w) := by
  obtain ⟨i1, hj1, hx1, hy1, hz1⟩ := info_parts infoEntity
  have HL1 := Lib.hid hl1
  have HT1 := Lib.hid ht1
  have HL2 := Lib.hid hl2
  have HT2 := Lib.hid ht2
  have HL3 := Lib.hid hl3
  have HT3 := Lib.hid ht3
  have HL4 := Lib.hid hl4
  have HT4 := Lib.hid ht4
  have HE2 := Lib.hid he2
  have HF2 := Lib.hid hf2
  have HE5 := Lib.hid he5
  have HF5 := Lib.hid hf5
  have HE6 := Lib.hid he6
  have HF6 := Lib.hid hf6
  clear hl1 ht1 hl2 ht2 hl3 ht3 hl4 ht4 he2 hf2 he5 hf5 he6 hf6
  have X1 : Hid (HeldZ w [(w.heap.size, [.int .i64 f0, .slice A1 n1 c1, .slice A2 n2 c2, .slice A3 n3 c3, .slice A4 n4 c4])] (w.alloc (.cells #[.int .i64 f0, .slice A1 n1 c1, .slice A2 n2 c2, .slice A3 n3 c3, .slice A4 n4 c4] 29))) := Lib.hid (by have h1 := (HeldZ.start w).new #[.int .i64 f0, .slice A1 n1 c1, .slice A2 n2 c2, .slice A3 n3 c3, .slice A4 n4 c4] 29; (try simp only [World.size_alloc] at h1); exact h1)
  have X2 : Hid (HeldZ w [(w.heap.size + 1, [.int .i64 g0, .int .i64 g1, .slice D2 m2 j2, .int .i64 g3, .int .i64 g4_0, .int .i64 g4_1, .slice D5 m5 j5, .slice D6 m6 j6, .int .i64 g7, .int .i64 g8, .int .i64 g9, .int .i64 g10]), (w.heap.size, [.int .i64 f0, .slice A1 n1 c1, .slice A2 n2 c2, .slice A3 n3 c3, .slice A4 n4 c4])] ((w.alloc (.cells #[.int .i64 f0, .slice A1 n1 c1, .slice A2 n2 c2, .slice A3 n3 c3, .slice A4 n4 c4] 29)).alloc (.cells #[.int .i64 g0, .int .i64 g1, .slice D2 m2 j2, .int .i64 g3, .int .i64 g4_0, .int .i64 g4_1, .slice D5 m5 j5, .slice D6 m6 j6, .int .i64 g7, .int .i64 g8, .int .i64 g9, .int .i64 g10] 38))) := Lib.hid (by have h1 := X1.out.new #[.int .i64 g0, .int .i64 g1, .slice D2 m2 j2, .int .i64 g3, .int .i64 g4_0, .int .i64 g4_1, .slice D5 m5 j5, .slice D6 m6 j6, .int .i64 g7, .int .i64 g8, .int .i64 g9, .int .i64 g10] 38; (try simp only [World.size_alloc] at h1); exact h1)
  have X3 : Hid (HeldZ w [(w.heap.size + 1 + 1, [.int .i64 0, .slice none 0 0, .slice none 0 0, .slice none 0 0, .slice none 0 0]), (w.heap.size + 1, [.int .i64 g0, .int .i64 g1, .slice D2 m2 j2, .int .i64 g3, .int .i64 g4_0, .int .i64 g4_1, .slice D5 m5 j5, .slice D6 m6 j6, .int .i64 g7, .int .i64 g8, .int .i64 g9, .int .i64 g10]), (w.heap.size, [.int .i64 f0, .slice A1 n1 c1, .slice A2 n2 c2, .slice A3 n3 c3, .slice A4 n4 c4])] (((w.alloc (.cells #[.int .i64 f0, .slice A1 n1 c1, .slice A2 n2 c2, .slice A3 n3 c3, .slice A4 n4 c4] 29)).alloc (.cells #[.int .i64 g0, .int .i64 g1, .slice D2 m2 j2, .int .i64 g3, .int .i64 g4_0, .int .i64 g4_1, .slice D5 m5 j5, .slice D6 m6 j6, .int .i64 g7, .int .i64 g8, .int .i64 g9, .int .i64 g10] 38)).alloc (.cells #[.int .i64 0, .slice none 0 0, .slice none 0 0, .slice none 0 0, .slice none 0 0] 29))) := Lib.hid (by have h1 := X2.out.new #[.int .i64 0, .slice none 0 0, .slice none 0 0, .slice none 0 0, .slice none 0 0] 29; (try simp only [World.size_alloc] at h1); exact h1)
  have X := X3
  clear X1 X2 X3
  go_enter Try.func36, Try.ntmps36
  go_wp2_with fail
  refine (specCopV f0 L1 A1 n1 c1 L2 A2 n2 c2 L3 A3 n3 c3 L4 A4 n4 c4 _ (HL1.out.below X.out.1) HT1.out hq1 (HL2.out.below X.out.1) HT2.out hq2 (HL3.out.below X.out.1) HT3.out hq3 (HL4.out.below X.out.1) HT4.out hq4).mono ?_
  rintro e w1 ⟨B1, k1, B2, k2, B3, k3, B4, k4, rfl, hV, hb⟩
  have hs1 := hb.size
  simp only [World.size_alloc] at hs1
  have VX : Hid (VatX (rng (w.heap.size + 1 + 1 + 1) w1.heap.size) w1 L1 B1 n1 k1 L2 B2 n2 k2 L3 B3 n3 k3 L4 B4 n4 k4) := Lib.hid (by have h1 := hV; (try simp only [World.size_alloc] at h1); exact h1)
  clear hV
  replace X : Hid (HeldZ w [(w.heap.size + 1 + 1, [.int .i64 0, .slice none 0 0, .slice none 0 0, .slice none 0 0, .slice none 0 0]), (w.heap.size + 1, [.int .i64 g0, .int .i64 g1, .slice D2 m2 j2, .int .i64 g3, .int .i64 g4_0, .int .i64 g4_1, .slice D5 m5 j5, .slice D6 m6 j6, .int .i64 g7, .int .i64 g8, .int .i64 g9, .int .i64 g10]), (w.heap.size, [.int .i64 f0, .slice A1 n1 c1, .slice A2 n2 c2, .slice A3 n3 c3, .slice A4 n4 c4])] w1) := Lib.hid (X.out.below hb)
  clear hb
  go_upto_region 2 with (fail)
  replace X : Hid (HeldZ w [(w1.heap.size, [.int .i64 f0, .slice B1 n1 k1, .slice B2 n2 k2, .slice B3 n3 k3, .slice B4 n4 k4]), (w.heap.size + 1 + 1, [.int .i64 0, .slice none 0 0, .slice none 0 0, .slice none 0 0, .slice none 0 0]), (w.heap.size + 1, [.int .i64 g0, .int .i64 g1, .slice D2 m2 j2, .int .i64 g3, .int .i64 g4_0, .int .i64 g4_1, .slice D5 m5 j5, .slice D6 m6 j6, .int .i64 g7, .int .i64 g8, .int .i64 g9, .int .i64 g10]), (w.heap.size, [.int .i64 f0, .slice A1 n1 c1, .slice A2 n2 c2, .slice A3 n3 c3, .slice A4 n4 c4])] (w1.alloc (.cells #[.int .i64 f0, .slice B1 n1 k1, .slice B2 n2 k2, .slice B3 n3 k3, .slice B4 n4 k4] 29))) := Lib.hid (X.out.new #[.int .i64 f0, .slice B1 n1 k1, .slice B2 n2 k2, .slice B3 n3 k3, .slice B4 n4 k4] 29)
  replace VX := Lib.hid (VX.out.below ((Below.refl _ _).alloc (Nat.le_refl _) (.cells #[.int .i64 f0, .slice B1 n1 k1, .slice B2 n2 k2, .slice B3 n3 k3, .slice B4 n4 k4] 29)))
  have hs2 : w1.heap.size + 1 ≤ (w1.alloc (.cells #[.int .i64 f0, .slice B1 n1 k1, .slice B2 n2 k2, .slice B3 n3 k3, .slice B4 n4 k4] 29)).heap.size := by simp
  generalize (w1.alloc (.cells #[.int .i64 f0, .slice B1 n1 k1, .slice B2 n2 k2, .slice B3 n3 k3, .slice B4 n4 k4] 29)) = w2 at *
  obtain ⟨z0_0, z0_1, z0_2, z0_3, z0_4, z0f⟩ := (X.out.zx (g := w1.heap.size) (cs := [.int .i64 f0, .slice B1 n1 k1, .slice B2 n2 k2, .slice B3 n3 k3, .slice B4 n4 k4]) (by repeat (first | exact List.mem_cons_self | refine List.mem_cons_of_mem _ ?_))).d5
  obtain ⟨z1_0, z1_1, z1_2, z1_3, z1_4, z1f⟩ := (X.out.zx (g := w.heap.size + 1 + 1) (cs := [.int .i64 0, .slice none 0 0, .slice none 0 0, .slice none 0 0, .slice none 0 0]) (by repeat (first | exact List.mem_cons_self | refine List.mem_cons_of_mem _ ?_))).d5
  obtain ⟨z2_0, z2_1, z2_2, z2_3, z2_4, z2_5, z2_6, z2_7, z2_8, z2_9, z2_10, z2_11, z2f⟩ := (X.out.zx (g := w.heap.size + 1) (cs := [.int .i64 g0, .int .i64 g1, .slice D2 m2 j2, .int .i64 g3, .int .i64 g4_0, .int .i64 g4_1, .slice D5 m5 j5, .slice D6 m6 j6, .int .i64 g7, .int .i64 g8, .int .i64 g9, .int .i64 g10]) (by repeat (first | exact List.mem_cons_self | refine List.mem_cons_of_mem _ ?_))).d12
  obtain ⟨z3_0, z3_1, z3_2, z3_3, z3_4, z3f⟩ := (X.out.zx (g := w.heap.size) (cs := [.int .i64 f0, .slice A1 n1 c1, .slice A2 n2 c2, .slice A3 n3 c3, .slice A4 n4 c4]) (by repeat (first | exact List.mem_cons_self | refine List.mem_cons_of_mem _ ?_))).d5
  go_wp2_with fail
  refine bodyPost_ret (v := .tuple #[.agg #[.int .i64 f0, .slice B1 n1 k1, .slice B2 n2 k2, .slice B3 n3 k3, .slice B4 n4 k4], .int .i64 (-1)]) ?hres rfl ?hpost
  case hres => exact results_box2 rfl _ _ (w.heap.size + 1 + 1) [.int .i64 f0, .slice B1 n1 k1, .slice B2 n2 k2, .slice B3 n3 k3, .slice B4 n4 k4] _ _ rfl rfl (((((((X.out.zx (g := w.heap.size + 1 + 1) (cs := [.int .i64 0, .slice none 0 0, .slice none 0 0, .slice none 0 0, .slice none 0 0]) (by repeat (first | exact List.mem_cons_self | refine List.mem_cons_of_mem _ ?_))).1).put 0 _).put 1 _).put 2 _).put 3 _).put 4 _) Try.underlying29 rfl (by kernel_rfl)
  case hpost =>
    suffices h9 : ∀ w' : World, Touch (fun b => b = w.heap.size + 1 + 1) w2 w' → GivesVtI f0 L1 n1 L2 n2 L3 n3 L4 n4 (-1) w (.returned (.tuple #[.agg #[.int .i64 f0, .slice B1 n1 k1, .slice B2 n2 k2, .slice B3 n3 k3, .slice B4 n4 k4], .int .i64 (-1)])) w' from h9 _ ((((((Touch.refl (fun b => b = w.heap.size + 1 + 1) w2).setCell (p := ⟨w.heap.size + 1 + 1, 0, none⟩) rfl _).setCell (p := ⟨w.heap.size + 1 + 1, 1, none⟩) rfl _).setCell (p := ⟨w.heap.size + 1 + 1, 2, none⟩) rfl _).setCell (p := ⟨w.heap.size + 1 + 1, 3, none⟩) rfl _).setCell (p := ⟨w.heap.size + 1 + 1, 4, none⟩) rfl _)
    intro w' hT
    exact ⟨B1, k1, B2, k2, B3, k3, B4, k4, rfl, ((VX.out.touch hT (fun b hb e => by have h1 := hb.1; omega)).mono (P' := fun b => w.heap.size ≤ b) (fun b hb => by have h1 := hb.1; omega)).rng, X.out.1.trans (hT.below (fun b e => by omega) X.out.1.size)⟩
end Go.Proofs.Ytmeacgpebpfpbaa
end
section
namespace Go.Proofs.Ytmeacgpebpfpbaa
open Go.RowKit
set_option linter.unusedVariables false
set_option linter.unusedSimpArgs false
def addL (L : List Dat) (n : Nat) (d : Dat) : List Dat := if 200 ≤ n then L else L ++ [d]
def addN (n : Nat) : Nat := if 200 ≤ n then n else n + 1
def addV (n : Nat) : Int := if 200 ≤ n then -1 else (n : Int)
theorem implAddE (f0 : Int) (L1 : List Dat) (A1 : Option Addr) (n1 c1 : Nat) (L2 : List Dat) (A2 : Option Addr) (n2 c2 : Nat) (L3 : List Dat) (A3 : Option Addr) (n3 c3 : Nat) (L4 : List Dat) (A4 : Option Addr) (n4 c4 : Nat) (g0 : Int) (g1 : Int) (M2 : List Dat) (D2 : Option Addr) (m2 j2 : Nat) (g3 : Int) (g4_0 : Int) (g4_1 : Int) (M5 : List Dat) (D5 : Option Addr) (m5 j5 : Nat) (M6 : List Dat) (D6 : Option Addr) (m6 j6 : Nat) (g7 : Int) (g8 : Int) (g9 : Int) (g10 : Int) (w : World) (hl1 : Lies w (.l L1) [.slice A1 n1 c1]) (ht1 : ∀ x ∈ L1, Has tyEntity x) (hq1 : (Dat.l L1).bulk ≤ 549755813888) (hl2 : Lies w (.l L2) [.slice A2 n2 c2]) (ht2 : ∀ x ∈ L2, Has tySent x) (hq2 : (Dat.l L2).bulk ≤ 549755813888) (hl3 : Lies w (.l L3) [.slice A3 n3 c3]) (ht3 : ∀ x ∈ L3, Has tyLink x) (hq3 : (Dat.l L3).bulk ≤ 549755813888) (hl4 : Lies w (.l L4) [.slice A4 n4 c4]) (ht4 : ∀ x ∈ L4, Has tyOutgoing x) (hq4 : (Dat.l L4).bulk ≤ 549755813888) (he2 : Lies w (.l M2) [.slice D2 m2 j2]) (hf2 : ∀ x ∈ M2, Has tyValue x) (hu2 : (Dat.l M2).bulk ≤ 549755813888) (he5 : Lies w (.l M5) [.slice D5 m5 j5]) (hf5 : ∀ x ∈ M5, Has tySent x) (hu5 : (Dat.l M5).bulk ≤ 549755813888) (he6 : Lies w (.l M6) [.slice D6 m6 j6]) (hf6 : ∀ x ∈ M6, Has tyAsker x) (hu6 : (Dat.l M6).bulk ≤ 549755813888) :
    Calls Try.prog 15 #[.agg #[.int .i64 f0, .slice A1 n1 c1, .slice A2 n2 c2, .slice A3 n3 c3, .slice A4 n4 c4], .agg #[.int .i64 g0, .int .i64 g1, .slice D2 m2 j2, .int .i64 g3, .int .i64 g4_0, .int .i64 g4_1, .slice D5 m5 j5, .slice D6 m6 j6, .int .i64 g7, .int .i64 g8, .int .i64 g9, .int .i64 g10]] w (GivesVtI f0 (addL L1 n1 (.r [.i g0, .i g1, .l M2, .i g3, .r [.i g4_0, .i g4_1], .l M5, .l M6, .i g7, .i g8, .i g9, .i g10])) (addN n1) L2 n2 L3 n3 L4 n4 (addV n1) w) := by
  by_cases h : 200 ≤ n1
  · rw [addL, addN, addV, if_pos h, if_pos h, if_pos h]
    exact implAddFull f0 L1 A1 n1 c1 L2 A2 n2 c2 L3 A3 n3 c3 L4 A4 n4 c4 g0 g1 M2 D2 m2 j2 g3 g4_0 g4_1 M5 D5 m5 j5 M6 D6 m6 j6 g7 g8 g9 g10 w hl1 ht1 hq1 hl2 ht2 hq2 hl3 ht3 hq3 hl4 ht4 hq4 he2 hf2 hu2 he5 hf5 hu5 he6 hf6 hu6 h
  · rw [addL, addN, addV, if_neg h, if_neg h, if_neg h]
    exact implAdd f0 L1 A1 n1 c1 L2 A2 n2 c2 L3 A3 n3 c3 L4 A4 n4 c4 g0 g1 M2 D2 m2 j2 g3 g4_0 g4_1 M5 D5 m5 j5 M6 D6 m6 j6 g7 g8 g9 g10 w hl1 ht1 hq1 hl2 ht2 hq2 hl3 ht3 hq3 hl4 ht4 hq4 he2 hf2 hu2 he5 hf5 hu5 he6 hf6 hu6 (by omega)
theorem specAddE (f0 : Int) (L1 : List Dat) (A1 : Option Addr) (n1 c1 : Nat) (L2 : List Dat) (A2 : Option Addr) (n2 c2 : Nat) (L3 : List Dat) (A3 : Option Addr) (n3 c3 : Nat) (L4 : List Dat) (A4 : Option Addr) (n4 c4 : Nat) (g0 : Int) (g1 : Int) (M2 : List Dat) (D2 : Option Addr) (m2 j2 : Nat) (g3 : Int) (g4_0 : Int) (g4_1 : Int) (M5 : List Dat) (D5 : Option Addr) (m5 j5 : Nat) (M6 : List Dat) (D6 : Option Addr) (m6 j6 : Nat) (g7 : Int) (g8 : Int) (g9 : Int) (g10 : Int) (w : World) (hl1 : Lies w (.l L1) [.slice A1 n1 c1]) (ht1 : ∀ x ∈ L1, Has tyEntity x) (hq1 : (Dat.l L1).bulk ≤ 549755813888) (hl2 : Lies w (.l L2) [.slice A2 n2 c2]) (ht2 : ∀ x ∈ L2, Has tySent x) (hq2 : (Dat.l L2).bulk ≤ 549755813888) (hl3 : Lies w (.l L3) [.slice A3 n3 c3]) (ht3 : ∀ x ∈ L3, Has tyLink x) (hq3 : (Dat.l L3).bulk ≤ 549755813888) (hl4 : Lies w (.l L4) [.slice A4 n4 c4]) (ht4 : ∀ x ∈ L4, Has tyOutgoing x) (hq4 : (Dat.l L4).bulk ≤ 549755813888) (he2 : Lies w (.l M2) [.slice D2 m2 j2]) (hf2 : ∀ x ∈ M2, Has tyValue x) (hu2 : (Dat.l M2).bulk ≤ 549755813888) (he5 : Lies w (.l M5) [.slice D5 m5 j5]) (hf5 : ∀ x ∈ M5, Has tySent x) (hu5 : (Dat.l M5).bulk ≤ 549755813888) (he6 : Lies w (.l M6) [.slice D6 m6 j6]) (hf6 : ∀ x ∈ M6, Has tyAsker x) (hu6 : (Dat.l M6).bulk ≤ 549755813888) :
    Calls Try.prog 36 #[.agg #[.int .i64 f0, .slice A1 n1 c1, .slice A2 n2 c2, .slice A3 n3 c3, .slice A4 n4 c4], .agg #[.int .i64 g0, .int .i64 g1, .slice D2 m2 j2, .int .i64 g3, .int .i64 g4_0, .int .i64 g4_1, .slice D5 m5 j5, .slice D6 m6 j6, .int .i64 g7, .int .i64 g8, .int .i64 g9, .int .i64 g10]] w (GivesVtI f0 (addL L1 n1 (.r [.i g0, .i g1, .l M2, .i g3, .r [.i g4_0, .i g4_1], .l M5, .l M6, .i g7, .i g8, .i g9, .i g10])) (addN n1) L2 n2 L3 n3 L4 n4 (addV n1) w) := by
  by_cases h : 200 ≤ n1
  · rw [addL, addN, addV, if_pos h, if_pos h, if_pos h]
    exact specAddFull f0 L1 A1 n1 c1 L2 A2 n2 c2 L3 A3 n3 c3 L4 A4 n4 c4 g0 g1 M2 D2 m2 j2 g3 g4_0 g4_1 M5 D5 m5 j5 M6 D6 m6 j6 g7 g8 g9 g10 w hl1 ht1 hq1 hl2 ht2 hq2 hl3 ht3 hq3 hl4 ht4 hq4 he2 hf2 hu2 he5 hf5 hu5 he6 hf6 hu6 h
  · rw [addL, addN, addV, if_neg h, if_neg h, if_neg h]
    exact specAdd f0 L1 A1 n1 c1 L2 A2 n2 c2 L3 A3 n3 c3 L4 A4 n4 c4 g0 g1 M2 D2 m2 j2 g3 g4_0 g4_1 M5 D5 m5 j5 M6 D6 m6 j6 g7 g8 g9 g10 w hl1 ht1 hq1 hl2 ht2 hq2 hl3 ht3 hq3 hl4 ht4 hq4 he2 hf2 hu2 he5 hf5 hu5 he6 hf6 hu6 (by omega)
end Go.Proofs.Ytmeacgpebpfpbaa
end
