/- Exact laws of chapter 12: Look. -/
import Derived.Test.YtmeacgpebpfpbaaLawV0
import Derived.Test.YtmeacgpebpfpbaaLokI
import Derived.Test.YtmeacgpebpfpbaaLokS
import Derived.Test.YtmeacgpebpfpbaaTyV4
import Derived.Test.YtmeacgpebpfpbaaTyV6
import Derived.Test.YtmeacgpebpfpbaaTyV8
import Derived.Deep.RegionHeld3
import Derived.Deep.Cut
import Derived.LoopTactic
import Derived.Lib.Hide
import Derived.Deep.QuietTactic
import Derived.BigQuiet
import Derived.Deep.RegionWith
import Derived.Handy
namespace Go.Proofs.Ytmeacgpebpfpbaa
open Go.RowKit
set_option linter.unusedVariables false
set_option linter.unusedSimpArgs false
theorem St.box_ {W w : World} {l : List (Nat × List Value)} {m : List (Dat × List Value)} {g : Nat} {cs : List Value} (h : St W l m w) (hz : Box g cs w) : St W ((g, cs) :: l) m w :=
  ⟨⟨h.1.1, fun p hp => by
    rcases List.mem_cons.1 hp with rfl | hp
    · exact hz
    · exact h.1.2 p hp⟩, h.2⟩
set_option maxRecDepth 100000 in
set_option maxHeartbeats 16000000 in
theorem law_Look (f0 : Int) (L1 : List Dat) (A1 : Option Addr) (n1 c1 : Nat) (L2 : List Dat) (A2 : Option Addr) (n2 c2 : Nat) (L3 : List Dat) (A3 : Option Addr) (n3 c3 : Nat) (L4 : List Dat) (A4 : Option Addr) (n4 c4 : Nat) (k n : Int) (W : World) (hl1 : Lies W (.l L1) [.slice A1 n1 c1]) (ht1 : ∀ x ∈ L1, Has tyEntity x) (hm1 : n1 ≤ 9223372036854775807) (hl2 : Lies W (.l L2) [.slice A2 n2 c2]) (ht2 : ∀ x ∈ L2, Has tySent x) (hm2 : n2 ≤ 9223372036854775807) (hl3 : Lies W (.l L3) [.slice A3 n3 c3]) (ht3 : ∀ x ∈ L3, Has tyLink x) (hm3 : n3 ≤ 9223372036854775807) (hl4 : Lies W (.l L4) [.slice A4 n4 c4]) (ht4 : ∀ x ∈ L4, Has tyOutgoing x) (hm4 : n4 ≤ 9223372036854775807) :
    Calls Try.prog 7 #[.agg #[.int .i64 f0, .slice A1 n1 c1, .slice A2 n2 c2, .slice A3 n3 c3, .slice A4 n4 c4], .agg #[.int .i64 k, .int .i64 n]] W (GivesBool true W) := by
  have X := Lib.hid (((((St.start W).lie hl1).lie hl2).lie hl3).lie hl4)
  have hc1 := Lib.hid hl1.count
  have hc2 := Lib.hid hl2.count
  have hc3 := Lib.hid hl3.count
  have hc4 := Lib.hid hl4.count
  clear hl1 hl2 hl3 hl4
  replace X := Lib.hid (X.out.push #[.int .i64 f0, .slice A1 n1 c1, .slice A2 n2 c2, .slice A3 n3 c3, .slice A4 n4 c4] 60)
  replace X := Lib.hid (X.out.push #[.int .i64 k, .int .i64 n] 64)
  simp only [World.size_alloc] at X
  obtain ⟨v, hv⟩ : ∃ v, lookD L1 ⟨k, n⟩ = v := ⟨_, rfl⟩
  have HV := Lib.hid hv
  clear hv
  rcases leftD_cases (.r [.i f0, .l L1, .l L2, .l L3, .l L4] : Dat) 1048576 with hbig | ⟨r, hr, hr0, hr1, hb⟩
  case inl =>
    have HBIG := Lib.hid hbig
    clear hbig
    go_enter Try.func7, Try.ntmps7
    obtain ⟨x0, x1, x2, x3, x4⟩ := (X.out.1.box (g := W.heap.size) (cs := [.int .i64 f0, .slice A1 n1 c1, .slice A2 n2 c2, .slice A3 n3 c3, .slice A4 n4 c4]) (by repeat (first | exact List.mem_cons_self | refine List.mem_cons_of_mem _ ?_))).c5
    go_wp2_with fail
    refine (szVat f0 L1 A1 n1 c1 L2 A2 n2 c2 L3 A3 n3 c3 L4 A4 n4 c4 (1048576) _ (by omega) (by omega) (X.out.lies (d := .l L1) (cs := [.slice A1 n1 c1]) (by repeat (first | exact List.mem_cons_self | refine List.mem_cons_of_mem _ ?_))) ht1 hm1 (X.out.lies (d := .l L2) (cs := [.slice A2 n2 c2]) (by repeat (first | exact List.mem_cons_self | refine List.mem_cons_of_mem _ ?_))) ht2 hm2 (X.out.lies (d := .l L3) (cs := [.slice A3 n3 c3]) (by repeat (first | exact List.mem_cons_self | refine List.mem_cons_of_mem _ ?_))) ht3 hm3 (X.out.lies (d := .l L4) (cs := [.slice A4 n4 c4]) (by repeat (first | exact List.mem_cons_self | refine List.mem_cons_of_mem _ ?_))) ht4 hm4).mono ?_
    rintro e w1 ⟨rfl, hb⟩
    rw [HBIG.out]
    replace X := Lib.hid (X.out.below hb)
    clear hb
    clear x0 x1 x2 x3 x4
    go_wp2_with fail
    go_ret
    exact GivesBool.ret X.out.low
  case inr =>
    have HR := Lib.hid hr
    clear hr
    have hq1 : (Dat.l L1).bulk ≤ 1099511627776 := by simp only [Dat.bulk, bulkAll] at hb ⊢; omega
    have hn1 : n1 ≤ 1099511627776 := by have h1 := hc1.out; simp only [Dat.bulk, bulkAll] at hb; omega
    have hq2 : (Dat.l L2).bulk ≤ 1099511627776 := by simp only [Dat.bulk, bulkAll] at hb ⊢; omega
    have hn2 : n2 ≤ 1099511627776 := by have h1 := hc2.out; simp only [Dat.bulk, bulkAll] at hb; omega
    have hq3 : (Dat.l L3).bulk ≤ 1099511627776 := by simp only [Dat.bulk, bulkAll] at hb ⊢; omega
    have hn3 : n3 ≤ 1099511627776 := by have h1 := hc3.out; simp only [Dat.bulk, bulkAll] at hb; omega
    have hq4 : (Dat.l L4).bulk ≤ 1099511627776 := by simp only [Dat.bulk, bulkAll] at hb ⊢; omega
    have hn4 : n4 ≤ 1099511627776 := by have h1 := hc4.out; simp only [Dat.bulk, bulkAll] at hb; omega
    go_enter Try.func7, Try.ntmps7
    obtain ⟨x0, x1, x2, x3, x4⟩ := (X.out.1.box (g := W.heap.size) (cs := [.int .i64 f0, .slice A1 n1 c1, .slice A2 n2 c2, .slice A3 n3 c3, .slice A4 n4 c4]) (by repeat (first | exact List.mem_cons_self | refine List.mem_cons_of_mem _ ?_))).c5
    go_wp2_with fail
    refine (szVat f0 L1 A1 n1 c1 L2 A2 n2 c2 L3 A3 n3 c3 L4 A4 n4 c4 (1048576) _ (by omega) (by omega) (X.out.lies (d := .l L1) (cs := [.slice A1 n1 c1]) (by repeat (first | exact List.mem_cons_self | refine List.mem_cons_of_mem _ ?_))) ht1 hm1 (X.out.lies (d := .l L2) (cs := [.slice A2 n2 c2]) (by repeat (first | exact List.mem_cons_self | refine List.mem_cons_of_mem _ ?_))) ht2 hm2 (X.out.lies (d := .l L3) (cs := [.slice A3 n3 c3]) (by repeat (first | exact List.mem_cons_self | refine List.mem_cons_of_mem _ ?_))) ht3 hm3 (X.out.lies (d := .l L4) (cs := [.slice A4 n4 c4]) (by repeat (first | exact List.mem_cons_self | refine List.mem_cons_of_mem _ ?_))) ht4 hm4).mono ?_
    rintro e w1 ⟨rfl, hb⟩
    rw [HR.out]
    replace X := Lib.hid (X.out.below hb)
    clear hb
    clear x0 x1 x2 x3 x4
    go_upto_region 5 with (fail)
    have HS : Hid (∀ w' : World, Below w1.heap.size w1 w' → ((w'.cell? ⟨W.heap.size, 0, none⟩ = some (.int .i64 f0) ∧ w'.cell? ⟨W.heap.size, 1, none⟩ = some (.slice A1 n1 c1) ∧ w'.cell? ⟨W.heap.size, 2, none⟩ = some (.slice A2 n2 c2) ∧ w'.cell? ⟨W.heap.size, 3, none⟩ = some (.slice A3 n3 c3) ∧ w'.cell? ⟨W.heap.size, 4, none⟩ = some (.slice A4 n4 c4)) ∧ (w'.cell? ⟨W.heap.size + 1, 0, none⟩ = some (.int .i64 k) ∧ w'.cell? ⟨W.heap.size + 1, 1, none⟩ = some (.int .i64 n)))) := Lib.hid (fun w' hb => ⟨⟨(X.out.below hb).1.at_ (g := W.heap.size) (i := 0) (v := .int .i64 f0) (cs := [.int .i64 f0, .slice A1 n1 c1, .slice A2 n2 c2, .slice A3 n3 c3, .slice A4 n4 c4]) (by repeat (first | exact List.mem_cons_self | refine List.mem_cons_of_mem _ ?_)) rfl, (X.out.below hb).1.at_ (g := W.heap.size) (i := 1) (v := .slice A1 n1 c1) (cs := [.int .i64 f0, .slice A1 n1 c1, .slice A2 n2 c2, .slice A3 n3 c3, .slice A4 n4 c4]) (by repeat (first | exact List.mem_cons_self | refine List.mem_cons_of_mem _ ?_)) rfl, (X.out.below hb).1.at_ (g := W.heap.size) (i := 2) (v := .slice A2 n2 c2) (cs := [.int .i64 f0, .slice A1 n1 c1, .slice A2 n2 c2, .slice A3 n3 c3, .slice A4 n4 c4]) (by repeat (first | exact List.mem_cons_self | refine List.mem_cons_of_mem _ ?_)) rfl, (X.out.below hb).1.at_ (g := W.heap.size) (i := 3) (v := .slice A3 n3 c3) (cs := [.int .i64 f0, .slice A1 n1 c1, .slice A2 n2 c2, .slice A3 n3 c3, .slice A4 n4 c4]) (by repeat (first | exact List.mem_cons_self | refine List.mem_cons_of_mem _ ?_)) rfl, (X.out.below hb).1.at_ (g := W.heap.size) (i := 4) (v := .slice A4 n4 c4) (cs := [.int .i64 f0, .slice A1 n1 c1, .slice A2 n2 c2, .slice A3 n3 c3, .slice A4 n4 c4]) (by repeat (first | exact List.mem_cons_self | refine List.mem_cons_of_mem _ ?_)) rfl⟩, ⟨(X.out.below hb).1.at_ (g := W.heap.size + 1) (i := 0) (v := .int .i64 k) (cs := [.int .i64 k, .int .i64 n]) (by repeat (first | exact List.mem_cons_self | refine List.mem_cons_of_mem _ ?_)) rfl, (X.out.below hb).1.at_ (g := W.heap.size + 1) (i := 1) (v := .int .i64 n) (cs := [.int .i64 k, .int .i64 n]) (by repeat (first | exact List.mem_cons_self | refine List.mem_cons_of_mem _ ?_)) rfl⟩⟩)
    go_cut [6] from 14 to 18 (fun s9 wq => ∃ g : Nat, s9 = .pointer (some ⟨g, 0, none⟩) ∧ Zx g [.int .i64 v.kind, .int .i64 v.n] wq ∧ Below w1.heap.size w1 wq)
    case first =>
      have HA1 := Lib.hid (X.out.lies (d := .l L1) (cs := [.slice A1 n1 c1]) (by repeat (first | exact List.mem_cons_self | refine List.mem_cons_of_mem _ ?_)))
      have HA2 := Lib.hid (X.out.lies (d := .l L2) (cs := [.slice A2 n2 c2]) (by repeat (first | exact List.mem_cons_self | refine List.mem_cons_of_mem _ ?_)))
      have HA3 := Lib.hid (X.out.lies (d := .l L3) (cs := [.slice A3 n3 c3]) (by repeat (first | exact List.mem_cons_self | refine List.mem_cons_of_mem _ ?_)))
      have HA4 := Lib.hid (X.out.lies (d := .l L4) (cs := [.slice A4 n4 c4]) (by repeat (first | exact List.mem_cons_self | refine List.mem_cons_of_mem _ ?_)))
      have HB : Hid (Below w1.heap.size w1 w1.drew) := Lib.hid (Below.refl _ _).drew
      refine wp_region_held_drew (S := fun w' => (w'.cell? ⟨W.heap.size, 0, none⟩ = some (.int .i64 f0) ∧ w'.cell? ⟨W.heap.size, 1, none⟩ = some (.slice A1 n1 c1) ∧ w'.cell? ⟨W.heap.size, 2, none⟩ = some (.slice A2 n2 c2) ∧ w'.cell? ⟨W.heap.size, 3, none⟩ = some (.slice A3 n3 c3) ∧ w'.cell? ⟨W.heap.size, 4, none⟩ = some (.slice A4 n4 c4)) ∧ (w'.cell? ⟨W.heap.size + 1, 0, none⟩ = some (.int .i64 k) ∧ w'.cell? ⟨W.heap.size + 1, 1, none⟩ = some (.int .i64 n))) (by kernel_rfl) ?_ (fun hH0 => ?_)
      · first | exact HS.out _ HB.out | exact HS.out _ ((HB.out.setCell (p := ⟨_, 0, none⟩) hg0 _).setCell (p := ⟨_, 1, none⟩) hg0 _) | exact HS.out _ (HBp.out.alloc HBp.out.size _)
      refine wpAnyH_take (i := 0) (oi := { dst := some 14, op := Op.load 60 (Operand.tmp 2), type := 60, pos := "exact.go:5204", after := #[], guard := none }) (v := ?_) rfl (by kernel_rfl) (by kernel_rfl) (by kernel_rfl) (fun _ _ _ h => h) (Or.inl ⟨by rfl, ?_⟩) hH0 ?_
      rotate_left
      · intro w hSw; (try dsimp only at hSw); go_simp; (try with_reducible rfl)
      simp only [Act.put, List.setIfInBounds_toArray, List.set_cons_zero, List.set_cons_succ]
      refine wpAnyH_take (i := 2) (oi := { dst := some 16, op := Op.load 64 (Operand.tmp 3), type := 64, pos := "exact.go:5204", after := #[], guard := none }) (v := ?_) rfl (by kernel_rfl) (by kernel_rfl) (by kernel_rfl) (fun _ _ _ h => h) (Or.inl ⟨by rfl, ?_⟩) hH0 ?_
      rotate_left
      · intro w hSw; (try dsimp only at hSw); go_simp; (try with_reducible rfl)
      simp only [Act.put, List.setIfInBounds_toArray, List.set_cons_zero, List.set_cons_succ]
      refine wpAnyH_ready (rs := [1, 5]) (by kernel_rfl) (by simp) ?_
      refine AllReadyH.cons (o := { dst := some 15, op := Op.call { callee := Callee.value (Operand.func 30), args := #[Operand.tmp 14], argTypes := #[60] }, type := 29, pos := "exact.go:5204", after := #[{ on := 0, ground := Ground.data }], guard := none }) rfl (fun K hK => ?_) ?_
      · (go_simp; go_at_call 30; (with_reducible refine (toVat f0 L1 A1 n1 c1 L2 A2 n2 c2 L3 A3 n3 c3 L4 A4 n4 c4 _ (HA1.out.below HB.out) ht1 hq1 (HA2.out.below HB.out) ht2 hq2 (HA3.out.below HB.out) ht3 hq3 (HA4.out.below HB.out) ht4 hq4).mono ?_); rintro e w1q ⟨Bt1, kt1, Bt2, kt2, Bt3, kt3, Bt4, kt4, a1, a2, a3, rfl, hO1, hO2, hO3, hO4, -, -, -, -, hb⟩; (have J1 := Lib.hid hO1.lies); (have J2 := Lib.hid hO2.lies); (have J3 := Lib.hid hO3.lies); (have J4 := Lib.hid hO4.lies); (replace HB := Lib.hid (HB.out.trans (hb.mono HB.out.size))); clear hb hO1 hO2 hO3 hO4; (try (go_wp2_with fail)))
        refine hK.out _ _ ?_ (fun hH1 => ?_)
        · first | exact HS.out _ HB.out | exact HS.out _ ((HB.out.setCell (p := ⟨_, 0, none⟩) hg0 _).setCell (p := ⟨_, 1, none⟩) hg0 _) | exact HS.out _ (HBp.out.alloc HBp.out.size _)
        clear hK K hH0
        (try simp only [Act.put, List.setIfInBounds_toArray, List.set_cons_zero, List.set_cons_succ])
        refine wpAnyH_ready (rs := [3, 5]) (by kernel_rfl) (by simp) ?_
        refine AllReadyH.cons (o := { dst := some 17, op := Op.call { callee := Callee.value (Operand.func 33), args := #[Operand.tmp 16], argTypes := #[64] }, type := 31, pos := "exact.go:5204", after := #[{ on := 2, ground := Ground.data }, { on := 1, ground := Ground.chain }], guard := none }) rfl (fun K hK => ?_) ?_
        · (go_simp; go_at_call 33; (with_reducible refine (toValue k n _).mono ?_); rintro e w2q ⟨rfl, hb⟩; (replace J1 := Lib.hid (J1.out.below hb)); (replace J2 := Lib.hid (J2.out.below hb)); (replace J3 := Lib.hid (J3.out.below hb)); (replace J4 := Lib.hid (J4.out.below hb)); (replace HB := Lib.hid (HB.out.trans (hb.mono HB.out.size))); clear hb; (try (go_wp2_with fail)))
          refine hK.out _ _ ?_ (fun hH2 => ?_)
          · first | exact HS.out _ HB.out | exact HS.out _ ((HB.out.setCell (p := ⟨_, 0, none⟩) hg0 _).setCell (p := ⟨_, 1, none⟩) hg0 _) | exact HS.out _ (HBp.out.alloc HBp.out.size _)
          clear hK K hH1
          (try simp only [Act.put, List.setIfInBounds_toArray, List.set_cons_zero, List.set_cons_succ])
          refine wpAnyH_ready (rs := [4, 5]) (by kernel_rfl) (by simp) ?_
          refine AllReadyH.cons (o := { dst := some 18, op := Op.call { callee := Callee.value (Operand.func 13), args := #[Operand.tmp 15, Operand.tmp 17], argTypes := #[29, 31] }, type := 31, pos := "exact.go:5204", after := #[{ on := 1, ground := Ground.data }, { on := 3, ground := Ground.data }, { on := 3, ground := Ground.chain }], guard := none }) rfl (fun K hK => ?_) ?_
          · (go_simp; go_at_call 13; (with_reducible refine (specLook f0 L1 Bt1 n1 kt1 L2 Bt2 n2 kt2 L3 Bt3 n3 kt3 L4 Bt4 n4 kt4 k n _ J1.out ht1 (by have h1 := hc1.out; simp only [Dat.bulk, bulkAll] at hb; omega)).mono ?_); rintro e w3q ⟨rfl, hb⟩; rw [HV.out]; (replace J1 := Lib.hid (J1.out.below hb)); (replace J2 := Lib.hid (J2.out.below hb)); (replace J3 := Lib.hid (J3.out.below hb)); (replace J4 := Lib.hid (J4.out.below hb)); (replace HB := Lib.hid (HB.out.trans (hb.mono HB.out.size))); clear hb; (try (go_wp2_with fail)))
            refine hK.out _ _ ?_ (fun hH3 => ?_)
            · first | exact HS.out _ HB.out | exact HS.out _ ((HB.out.setCell (p := ⟨_, 0, none⟩) hg0 _).setCell (p := ⟨_, 1, none⟩) hg0 _) | exact HS.out _ (HBp.out.alloc HBp.out.size _)
            clear hK K hH2
            (try simp only [Act.put, List.setIfInBounds_toArray, List.set_cons_zero, List.set_cons_succ])
            refine wpAnyH_ready (rs := [5]) (by kernel_rfl) (by simp) ?_
            refine AllReadyH.cons (o := { dst := some 6, op := Op.alloc 31, type := 0, pos := "exact.go:5204", after := #[], guard := none }) rfl (fun K hK => ?_) ?_
            · (go_simp; (have Z : Hid (Zx (w3q.heap.size) [.int .i64 0, .int .i64 0] (w3q.alloc (.cells #[.int .i64 0, .int .i64 0] 31))) := Lib.hid (by have h1 := Zx.new w3q #[.int .i64 0, .int .i64 0] 31; (try simp only [World.size_alloc, World.size_drew] at h1); exact h1)); (replace J1 := Lib.hid (J1.out.below ((Below.refl _ _).alloc (Nat.le_refl _) (.cells #[.int .i64 0, .int .i64 0] 31)))); (replace J2 := Lib.hid (J2.out.below ((Below.refl _ _).alloc (Nat.le_refl _) (.cells #[.int .i64 0, .int .i64 0] 31)))); (replace J3 := Lib.hid (J3.out.below ((Below.refl _ _).alloc (Nat.le_refl _) (.cells #[.int .i64 0, .int .i64 0] 31)))); (replace J4 := Lib.hid (J4.out.below ((Below.refl _ _).alloc (Nat.le_refl _) (.cells #[.int .i64 0, .int .i64 0] 31)))); (have HBp := HB); (have hg0 : w1.heap.size ≤ w3q.heap.size := (by have h1 := HB.out.size; (try simp only [World.size_alloc, World.size_drew] at h1); (try simp only [World.size_alloc, World.size_drew]); first | exact h1 | omega)); (replace HB := Lib.hid (HB.out.alloc HB.out.size (.cells #[.int .i64 0, .int .i64 0] 31))); (obtain ⟨zq0, zq1, fq⟩ := Z.out.d2))
              refine hK.out _ _ ?_ (fun hH4 => ?_)
              · first | exact HS.out _ HB.out | exact HS.out _ ((HB.out.setCell (p := ⟨_, 0, none⟩) hg0 _).setCell (p := ⟨_, 1, none⟩) hg0 _) | exact HS.out _ (HBp.out.alloc HBp.out.size _)
              clear hK K hH3
              (try simp only [Act.put, List.setIfInBounds_toArray, List.set_cons_zero, List.set_cons_succ])
              refine wpAnyH_ready (rs := [6]) (by kernel_rfl) (by simp) ?_
              refine AllReadyH.cons (o := { dst := none, op := Op.store 31 (Operand.tmp 6) (Operand.tmp 18), type := 0, pos := "exact.go:5204", after := #[{ on := 5, ground := Ground.data }, { on := 4, ground := Ground.data }, { on := 4, ground := Ground.chain }, { on := 0, ground := Ground.phase }, { on := 1, ground := Ground.phase }, { on := 2, ground := Ground.phase }, { on := 3, ground := Ground.phase }, { on := 4, ground := Ground.phase }, { on := 5, ground := Ground.phase }], guard := none }) rfl (fun K hK => ?_) ?_
              · go_simp
                refine hK.out _ _ ?_ (fun hH5 => ?_)
                · first | exact HS.out _ HB.out | exact HS.out _ ((HB.out.setCell (p := ⟨_, 0, none⟩) hg0 _).setCell (p := ⟨_, 1, none⟩) hg0 _) | exact HS.out _ (HBp.out.alloc HBp.out.size _)
                clear hK K hH4
                (try simp only [Act.put, List.setIfInBounds_toArray, List.set_cons_zero, List.set_cons_succ])
                refine wpAnyH_done (by kernel_rfl) ?_ _
                go_wp2_with fail
                go_meet
                first
                | exact ⟨_, rfl, ((Z.out.put 0 _).put 1 _), ((HB.out.setCell (p := ⟨_, 0, none⟩) hg0 _).setCell (p := ⟨_, 1, none⟩) hg0 _)⟩
                | exact ⟨_, rfl, Zx.new _ #[.int .i64 v.kind, .int .i64 v.n] _, HBp.out.alloc HBp.out.size _⟩
              exact AllReadyH.nil
            exact AllReadyH.nil
          refine AllReadyH.cons (o := { dst := some 6, op := Op.alloc 31, type := 0, pos := "exact.go:5204", after := #[], guard := none }) rfl (fun K hK => ?_) ?_
          · (go_simp; (have Z : Hid (Zx (w2q.heap.size) [.int .i64 0, .int .i64 0] (w2q.alloc (.cells #[.int .i64 0, .int .i64 0] 31))) := Lib.hid (by have h1 := Zx.new w2q #[.int .i64 0, .int .i64 0] 31; (try simp only [World.size_alloc, World.size_drew] at h1); exact h1)); (replace J1 := Lib.hid (J1.out.below ((Below.refl _ _).alloc (Nat.le_refl _) (.cells #[.int .i64 0, .int .i64 0] 31)))); (replace J2 := Lib.hid (J2.out.below ((Below.refl _ _).alloc (Nat.le_refl _) (.cells #[.int .i64 0, .int .i64 0] 31)))); (replace J3 := Lib.hid (J3.out.below ((Below.refl _ _).alloc (Nat.le_refl _) (.cells #[.int .i64 0, .int .i64 0] 31)))); (replace J4 := Lib.hid (J4.out.below ((Below.refl _ _).alloc (Nat.le_refl _) (.cells #[.int .i64 0, .int .i64 0] 31)))); (have HBp := HB); (have hg0 : w1.heap.size ≤ w2q.heap.size := (by have h1 := HB.out.size; (try simp only [World.size_alloc, World.size_drew] at h1); (try simp only [World.size_alloc, World.size_drew]); first | exact h1 | omega)); (replace HB := Lib.hid (HB.out.alloc HB.out.size (.cells #[.int .i64 0, .int .i64 0] 31))); (obtain ⟨zq0, zq1, fq⟩ := Z.out.d2))
            refine hK.out _ _ ?_ (fun hH6 => ?_)
            · first | exact HS.out _ HB.out | exact HS.out _ ((HB.out.setCell (p := ⟨_, 0, none⟩) hg0 _).setCell (p := ⟨_, 1, none⟩) hg0 _) | exact HS.out _ (HBp.out.alloc HBp.out.size _)
            clear hK K hH2
            (try simp only [Act.put, List.setIfInBounds_toArray, List.set_cons_zero, List.set_cons_succ])
            refine wpAnyH_ready (rs := [4]) (by kernel_rfl) (by simp) ?_
            refine AllReadyH.cons (o := { dst := some 18, op := Op.call { callee := Callee.value (Operand.func 13), args := #[Operand.tmp 15, Operand.tmp 17], argTypes := #[29, 31] }, type := 31, pos := "exact.go:5204", after := #[{ on := 1, ground := Ground.data }, { on := 3, ground := Ground.data }, { on := 3, ground := Ground.chain }], guard := none }) rfl (fun K hK => ?_) ?_
            · (go_simp; go_at_call 13; (with_reducible refine (specLook f0 L1 Bt1 n1 kt1 L2 Bt2 n2 kt2 L3 Bt3 n3 kt3 L4 Bt4 n4 kt4 k n _ J1.out ht1 (by have h1 := hc1.out; simp only [Dat.bulk, bulkAll] at hb; omega)).mono ?_); rintro e w3q ⟨rfl, hb⟩; rw [HV.out]; (replace J1 := Lib.hid (J1.out.below hb)); (replace J2 := Lib.hid (J2.out.below hb)); (replace J3 := Lib.hid (J3.out.below hb)); (replace J4 := Lib.hid (J4.out.below hb)); (replace HB := Lib.hid (HB.out.trans (hb.mono HB.out.size))); (replace Z := Lib.hid (Z.out.below hb)); (obtain ⟨zq0, zq1, fq⟩ := Z.out.d2); clear hb; (try (go_wp2_with fail)))
              refine hK.out _ _ ?_ (fun hH7 => ?_)
              · first | exact HS.out _ HB.out | exact HS.out _ ((HB.out.setCell (p := ⟨_, 0, none⟩) hg0 _).setCell (p := ⟨_, 1, none⟩) hg0 _) | exact HS.out _ (HBp.out.alloc HBp.out.size _)
              clear hK K hH6
              (try simp only [Act.put, List.setIfInBounds_toArray, List.set_cons_zero, List.set_cons_succ])
              refine wpAnyH_ready (rs := [6]) (by kernel_rfl) (by simp) ?_
              refine AllReadyH.cons (o := { dst := none, op := Op.store 31 (Operand.tmp 6) (Operand.tmp 18), type := 0, pos := "exact.go:5204", after := #[{ on := 5, ground := Ground.data }, { on := 4, ground := Ground.data }, { on := 4, ground := Ground.chain }, { on := 0, ground := Ground.phase }, { on := 1, ground := Ground.phase }, { on := 2, ground := Ground.phase }, { on := 3, ground := Ground.phase }, { on := 4, ground := Ground.phase }, { on := 5, ground := Ground.phase }], guard := none }) rfl (fun K hK => ?_) ?_
              · go_simp
                refine hK.out _ _ ?_ (fun hH8 => ?_)
                · first | exact HS.out _ HB.out | exact HS.out _ ((HB.out.setCell (p := ⟨_, 0, none⟩) hg0 _).setCell (p := ⟨_, 1, none⟩) hg0 _) | exact HS.out _ (HBp.out.alloc HBp.out.size _)
                clear hK K hH7
                (try simp only [Act.put, List.setIfInBounds_toArray, List.set_cons_zero, List.set_cons_succ])
                refine wpAnyH_done (by kernel_rfl) ?_ _
                go_wp2_with fail
                go_meet
                first
                | exact ⟨_, rfl, ((Z.out.put 0 _).put 1 _), ((HB.out.setCell (p := ⟨_, 0, none⟩) hg0 _).setCell (p := ⟨_, 1, none⟩) hg0 _)⟩
                | exact ⟨_, rfl, Zx.new _ #[.int .i64 v.kind, .int .i64 v.n] _, HBp.out.alloc HBp.out.size _⟩
              exact AllReadyH.nil
            exact AllReadyH.nil
          exact AllReadyH.nil
        refine AllReadyH.cons (o := { dst := some 6, op := Op.alloc 31, type := 0, pos := "exact.go:5204", after := #[], guard := none }) rfl (fun K hK => ?_) ?_
        · (go_simp; (have Z : Hid (Zx (w1q.heap.size) [.int .i64 0, .int .i64 0] (w1q.alloc (.cells #[.int .i64 0, .int .i64 0] 31))) := Lib.hid (by have h1 := Zx.new w1q #[.int .i64 0, .int .i64 0] 31; (try simp only [World.size_alloc, World.size_drew] at h1); exact h1)); (replace J1 := Lib.hid (J1.out.below ((Below.refl _ _).alloc (Nat.le_refl _) (.cells #[.int .i64 0, .int .i64 0] 31)))); (replace J2 := Lib.hid (J2.out.below ((Below.refl _ _).alloc (Nat.le_refl _) (.cells #[.int .i64 0, .int .i64 0] 31)))); (replace J3 := Lib.hid (J3.out.below ((Below.refl _ _).alloc (Nat.le_refl _) (.cells #[.int .i64 0, .int .i64 0] 31)))); (replace J4 := Lib.hid (J4.out.below ((Below.refl _ _).alloc (Nat.le_refl _) (.cells #[.int .i64 0, .int .i64 0] 31)))); (have HBp := HB); (have hg0 : w1.heap.size ≤ w1q.heap.size := (by have h1 := HB.out.size; (try simp only [World.size_alloc, World.size_drew] at h1); (try simp only [World.size_alloc, World.size_drew]); first | exact h1 | omega)); (replace HB := Lib.hid (HB.out.alloc HB.out.size (.cells #[.int .i64 0, .int .i64 0] 31))); (obtain ⟨zq0, zq1, fq⟩ := Z.out.d2))
          refine hK.out _ _ ?_ (fun hH9 => ?_)
          · first | exact HS.out _ HB.out | exact HS.out _ ((HB.out.setCell (p := ⟨_, 0, none⟩) hg0 _).setCell (p := ⟨_, 1, none⟩) hg0 _) | exact HS.out _ (HBp.out.alloc HBp.out.size _)
          clear hK K hH1
          (try simp only [Act.put, List.setIfInBounds_toArray, List.set_cons_zero, List.set_cons_succ])
          refine wpAnyH_ready (rs := [3]) (by kernel_rfl) (by simp) ?_
          refine AllReadyH.cons (o := { dst := some 17, op := Op.call { callee := Callee.value (Operand.func 33), args := #[Operand.tmp 16], argTypes := #[64] }, type := 31, pos := "exact.go:5204", after := #[{ on := 2, ground := Ground.data }, { on := 1, ground := Ground.chain }], guard := none }) rfl (fun K hK => ?_) ?_
          · (go_simp; go_at_call 33; (with_reducible refine (toValue k n _).mono ?_); rintro e w2q ⟨rfl, hb⟩; (replace J1 := Lib.hid (J1.out.below hb)); (replace J2 := Lib.hid (J2.out.below hb)); (replace J3 := Lib.hid (J3.out.below hb)); (replace J4 := Lib.hid (J4.out.below hb)); (replace HB := Lib.hid (HB.out.trans (hb.mono HB.out.size))); (replace Z := Lib.hid (Z.out.below hb)); (obtain ⟨zq0, zq1, fq⟩ := Z.out.d2); clear hb; (try (go_wp2_with fail)))
            refine hK.out _ _ ?_ (fun hH10 => ?_)
            · first | exact HS.out _ HB.out | exact HS.out _ ((HB.out.setCell (p := ⟨_, 0, none⟩) hg0 _).setCell (p := ⟨_, 1, none⟩) hg0 _) | exact HS.out _ (HBp.out.alloc HBp.out.size _)
            clear hK K hH9
            (try simp only [Act.put, List.setIfInBounds_toArray, List.set_cons_zero, List.set_cons_succ])
            refine wpAnyH_ready (rs := [4]) (by kernel_rfl) (by simp) ?_
            refine AllReadyH.cons (o := { dst := some 18, op := Op.call { callee := Callee.value (Operand.func 13), args := #[Operand.tmp 15, Operand.tmp 17], argTypes := #[29, 31] }, type := 31, pos := "exact.go:5204", after := #[{ on := 1, ground := Ground.data }, { on := 3, ground := Ground.data }, { on := 3, ground := Ground.chain }], guard := none }) rfl (fun K hK => ?_) ?_
            · (go_simp; go_at_call 13; (with_reducible refine (specLook f0 L1 Bt1 n1 kt1 L2 Bt2 n2 kt2 L3 Bt3 n3 kt3 L4 Bt4 n4 kt4 k n _ J1.out ht1 (by have h1 := hc1.out; simp only [Dat.bulk, bulkAll] at hb; omega)).mono ?_); rintro e w3q ⟨rfl, hb⟩; rw [HV.out]; (replace J1 := Lib.hid (J1.out.below hb)); (replace J2 := Lib.hid (J2.out.below hb)); (replace J3 := Lib.hid (J3.out.below hb)); (replace J4 := Lib.hid (J4.out.below hb)); (replace HB := Lib.hid (HB.out.trans (hb.mono HB.out.size))); (replace Z := Lib.hid (Z.out.below hb)); (obtain ⟨zq0, zq1, fq⟩ := Z.out.d2); clear hb; (try (go_wp2_with fail)))
              refine hK.out _ _ ?_ (fun hH11 => ?_)
              · first | exact HS.out _ HB.out | exact HS.out _ ((HB.out.setCell (p := ⟨_, 0, none⟩) hg0 _).setCell (p := ⟨_, 1, none⟩) hg0 _) | exact HS.out _ (HBp.out.alloc HBp.out.size _)
              clear hK K hH10
              (try simp only [Act.put, List.setIfInBounds_toArray, List.set_cons_zero, List.set_cons_succ])
              refine wpAnyH_ready (rs := [6]) (by kernel_rfl) (by simp) ?_
              refine AllReadyH.cons (o := { dst := none, op := Op.store 31 (Operand.tmp 6) (Operand.tmp 18), type := 0, pos := "exact.go:5204", after := #[{ on := 5, ground := Ground.data }, { on := 4, ground := Ground.data }, { on := 4, ground := Ground.chain }, { on := 0, ground := Ground.phase }, { on := 1, ground := Ground.phase }, { on := 2, ground := Ground.phase }, { on := 3, ground := Ground.phase }, { on := 4, ground := Ground.phase }, { on := 5, ground := Ground.phase }], guard := none }) rfl (fun K hK => ?_) ?_
              · go_simp
                refine hK.out _ _ ?_ (fun hH12 => ?_)
                · first | exact HS.out _ HB.out | exact HS.out _ ((HB.out.setCell (p := ⟨_, 0, none⟩) hg0 _).setCell (p := ⟨_, 1, none⟩) hg0 _) | exact HS.out _ (HBp.out.alloc HBp.out.size _)
                clear hK K hH11
                (try simp only [Act.put, List.setIfInBounds_toArray, List.set_cons_zero, List.set_cons_succ])
                refine wpAnyH_done (by kernel_rfl) ?_ _
                go_wp2_with fail
                go_meet
                first
                | exact ⟨_, rfl, ((Z.out.put 0 _).put 1 _), ((HB.out.setCell (p := ⟨_, 0, none⟩) hg0 _).setCell (p := ⟨_, 1, none⟩) hg0 _)⟩
                | exact ⟨_, rfl, Zx.new _ #[.int .i64 v.kind, .int .i64 v.n] _, HBp.out.alloc HBp.out.size _⟩
              exact AllReadyH.nil
            exact AllReadyH.nil
          exact AllReadyH.nil
        exact AllReadyH.nil
      refine AllReadyH.cons (o := { dst := some 6, op := Op.alloc 31, type := 0, pos := "exact.go:5204", after := #[], guard := none }) rfl (fun K hK => ?_) ?_
      · (go_simp; (have Z : Hid (Zx (w1.heap.size) [.int .i64 0, .int .i64 0] ((w1.alloc (.cells #[.int .i64 0, .int .i64 0] 31)).drew)) := Lib.hid (by have h1 := (Zx.new w1 #[.int .i64 0, .int .i64 0] 31).below (Below.refl _ _).drew; (try simp only [World.size_alloc, World.size_drew] at h1); exact h1)); (have HBp := HB); (have hg0 : w1.heap.size ≤ w1.heap.size := (by (try simp only [World.size_alloc, World.size_drew]); omega)); (replace HB := Lib.hid ((Below.refl w1.heap.size w1).alloc (Nat.le_refl _) (.cells #[.int .i64 0, .int .i64 0] 31)).drew); (obtain ⟨zq0, zq1, fq⟩ := Z.out.d2))
        refine hK.out _ _ ?_ (fun hH13 => ?_)
        · first | exact HS.out _ HB.out | exact HS.out _ ((HB.out.setCell (p := ⟨_, 0, none⟩) hg0 _).setCell (p := ⟨_, 1, none⟩) hg0 _) | exact HS.out _ (HBp.out.alloc HBp.out.size _)
        clear hK K hH0
        (try simp only [Act.put, List.setIfInBounds_toArray, List.set_cons_zero, List.set_cons_succ])
        refine wpAnyH_ready (rs := [1]) (by kernel_rfl) (by simp) ?_
        refine AllReadyH.cons (o := { dst := some 15, op := Op.call { callee := Callee.value (Operand.func 30), args := #[Operand.tmp 14], argTypes := #[60] }, type := 29, pos := "exact.go:5204", after := #[{ on := 0, ground := Ground.data }], guard := none }) rfl (fun K hK => ?_) ?_
        · (go_simp; go_at_call 30; (with_reducible refine (toVat f0 L1 A1 n1 c1 L2 A2 n2 c2 L3 A3 n3 c3 L4 A4 n4 c4 _ (HA1.out.below HB.out) ht1 hq1 (HA2.out.below HB.out) ht2 hq2 (HA3.out.below HB.out) ht3 hq3 (HA4.out.below HB.out) ht4 hq4).mono ?_); rintro e w1q ⟨Bt1, kt1, Bt2, kt2, Bt3, kt3, Bt4, kt4, a1, a2, a3, rfl, hO1, hO2, hO3, hO4, -, -, -, -, hb⟩; (have J1 := Lib.hid hO1.lies); (have J2 := Lib.hid hO2.lies); (have J3 := Lib.hid hO3.lies); (have J4 := Lib.hid hO4.lies); (replace HB := Lib.hid (HB.out.trans (hb.mono HB.out.size))); (replace Z := Lib.hid (Z.out.below hb)); (obtain ⟨zq0, zq1, fq⟩ := Z.out.d2); clear hb hO1 hO2 hO3 hO4; (try (go_wp2_with fail)))
          refine hK.out _ _ ?_ (fun hH14 => ?_)
          · first | exact HS.out _ HB.out | exact HS.out _ ((HB.out.setCell (p := ⟨_, 0, none⟩) hg0 _).setCell (p := ⟨_, 1, none⟩) hg0 _) | exact HS.out _ (HBp.out.alloc HBp.out.size _)
          clear hK K hH13
          (try simp only [Act.put, List.setIfInBounds_toArray, List.set_cons_zero, List.set_cons_succ])
          refine wpAnyH_ready (rs := [3]) (by kernel_rfl) (by simp) ?_
          refine AllReadyH.cons (o := { dst := some 17, op := Op.call { callee := Callee.value (Operand.func 33), args := #[Operand.tmp 16], argTypes := #[64] }, type := 31, pos := "exact.go:5204", after := #[{ on := 2, ground := Ground.data }, { on := 1, ground := Ground.chain }], guard := none }) rfl (fun K hK => ?_) ?_
          · (go_simp; go_at_call 33; (with_reducible refine (toValue k n _).mono ?_); rintro e w2q ⟨rfl, hb⟩; (replace J1 := Lib.hid (J1.out.below hb)); (replace J2 := Lib.hid (J2.out.below hb)); (replace J3 := Lib.hid (J3.out.below hb)); (replace J4 := Lib.hid (J4.out.below hb)); (replace HB := Lib.hid (HB.out.trans (hb.mono HB.out.size))); (replace Z := Lib.hid (Z.out.below hb)); (obtain ⟨zq0, zq1, fq⟩ := Z.out.d2); clear hb; (try (go_wp2_with fail)))
            refine hK.out _ _ ?_ (fun hH15 => ?_)
            · first | exact HS.out _ HB.out | exact HS.out _ ((HB.out.setCell (p := ⟨_, 0, none⟩) hg0 _).setCell (p := ⟨_, 1, none⟩) hg0 _) | exact HS.out _ (HBp.out.alloc HBp.out.size _)
            clear hK K hH14
            (try simp only [Act.put, List.setIfInBounds_toArray, List.set_cons_zero, List.set_cons_succ])
            refine wpAnyH_ready (rs := [4]) (by kernel_rfl) (by simp) ?_
            refine AllReadyH.cons (o := { dst := some 18, op := Op.call { callee := Callee.value (Operand.func 13), args := #[Operand.tmp 15, Operand.tmp 17], argTypes := #[29, 31] }, type := 31, pos := "exact.go:5204", after := #[{ on := 1, ground := Ground.data }, { on := 3, ground := Ground.data }, { on := 3, ground := Ground.chain }], guard := none }) rfl (fun K hK => ?_) ?_
            · (go_simp; go_at_call 13; (with_reducible refine (specLook f0 L1 Bt1 n1 kt1 L2 Bt2 n2 kt2 L3 Bt3 n3 kt3 L4 Bt4 n4 kt4 k n _ J1.out ht1 (by have h1 := hc1.out; simp only [Dat.bulk, bulkAll] at hb; omega)).mono ?_); rintro e w3q ⟨rfl, hb⟩; rw [HV.out]; (replace J1 := Lib.hid (J1.out.below hb)); (replace J2 := Lib.hid (J2.out.below hb)); (replace J3 := Lib.hid (J3.out.below hb)); (replace J4 := Lib.hid (J4.out.below hb)); (replace HB := Lib.hid (HB.out.trans (hb.mono HB.out.size))); (replace Z := Lib.hid (Z.out.below hb)); (obtain ⟨zq0, zq1, fq⟩ := Z.out.d2); clear hb; (try (go_wp2_with fail)))
              refine hK.out _ _ ?_ (fun hH16 => ?_)
              · first | exact HS.out _ HB.out | exact HS.out _ ((HB.out.setCell (p := ⟨_, 0, none⟩) hg0 _).setCell (p := ⟨_, 1, none⟩) hg0 _) | exact HS.out _ (HBp.out.alloc HBp.out.size _)
              clear hK K hH15
              (try simp only [Act.put, List.setIfInBounds_toArray, List.set_cons_zero, List.set_cons_succ])
              refine wpAnyH_ready (rs := [6]) (by kernel_rfl) (by simp) ?_
              refine AllReadyH.cons (o := { dst := none, op := Op.store 31 (Operand.tmp 6) (Operand.tmp 18), type := 0, pos := "exact.go:5204", after := #[{ on := 5, ground := Ground.data }, { on := 4, ground := Ground.data }, { on := 4, ground := Ground.chain }, { on := 0, ground := Ground.phase }, { on := 1, ground := Ground.phase }, { on := 2, ground := Ground.phase }, { on := 3, ground := Ground.phase }, { on := 4, ground := Ground.phase }, { on := 5, ground := Ground.phase }], guard := none }) rfl (fun K hK => ?_) ?_
              · go_simp
                refine hK.out _ _ ?_ (fun hH17 => ?_)
                · first | exact HS.out _ HB.out | exact HS.out _ ((HB.out.setCell (p := ⟨_, 0, none⟩) hg0 _).setCell (p := ⟨_, 1, none⟩) hg0 _) | exact HS.out _ (HBp.out.alloc HBp.out.size _)
                clear hK K hH16
                (try simp only [Act.put, List.setIfInBounds_toArray, List.set_cons_zero, List.set_cons_succ])
                refine wpAnyH_done (by kernel_rfl) ?_ _
                go_wp2_with fail
                go_meet
                first
                | exact ⟨_, rfl, ((Z.out.put 0 _).put 1 _), ((HB.out.setCell (p := ⟨_, 0, none⟩) hg0 _).setCell (p := ⟨_, 1, none⟩) hg0 _)⟩
                | exact ⟨_, rfl, Zx.new _ #[.int .i64 v.kind, .int .i64 v.n] _, HBp.out.alloc HBp.out.size _⟩
              exact AllReadyH.nil
            exact AllReadyH.nil
          exact AllReadyH.nil
        exact AllReadyH.nil
      exact AllReadyH.nil
    case rest =>
      rename World => wq
      obtain ⟨g6, rfl, hZ, hb⟩ := hcut
      replace X := Lib.hid (St.box_ (X.out.below hb) hZ.1)
      clear hb hZ HS
      obtain ⟨x0, x1, x2, x3, x4⟩ := (X.out.1.box (g := W.heap.size) (cs := [.int .i64 f0, .slice A1 n1 c1, .slice A2 n2 c2, .slice A3 n3 c3, .slice A4 n4 c4]) (by repeat (first | exact List.mem_cons_self | refine List.mem_cons_of_mem _ ?_))).c5
      go_wp2_with fail
      refine (toVat f0 L1 A1 n1 c1 L2 A2 n2 c2 L3 A3 n3 c3 L4 A4 n4 c4 _ (X.out.lies (d := .l L1) (cs := [.slice A1 n1 c1]) (by repeat (first | exact List.mem_cons_self | refine List.mem_cons_of_mem _ ?_))) ht1 hq1 (X.out.lies (d := .l L2) (cs := [.slice A2 n2 c2]) (by repeat (first | exact List.mem_cons_self | refine List.mem_cons_of_mem _ ?_))) ht2 hq2 (X.out.lies (d := .l L3) (cs := [.slice A3 n3 c3]) (by repeat (first | exact List.mem_cons_self | refine List.mem_cons_of_mem _ ?_))) ht3 hq3 (X.out.lies (d := .l L4) (cs := [.slice A4 n4 c4]) (by repeat (first | exact List.mem_cons_self | refine List.mem_cons_of_mem _ ?_))) ht4 hq4).mono ?_
      rintro e w2 ⟨Bx1, kx1, Bx2, kx2, Bx3, kx3, Bx4, kx4, a1, a2, a3, rfl, hO1, hO2, hO3, hO4, -, -, -, -, hb⟩
      replace X := Lib.hid (((((X.out.below hb).lie hO1.lies).lie hO2.lies).lie hO3.lies).lie hO4.lies)
      clear hb hO1 hO2 hO3 hO4
      clear x0 x1 x2 x3 x4
      replace X := Lib.hid (X.out.push #[.int .i64 f0, .slice Bx1 n1 kx1, .slice Bx2 n2 kx2, .slice Bx3 n3 kx3, .slice Bx4 n4 kx4] 29)
      go_upto_region 7 with (fail)
      have HS : Hid (∀ w' : World, Below (w2.alloc (.cells #[.int .i64 f0, .slice Bx1 n1 kx1, .slice Bx2 n2 kx2, .slice Bx3 n3 kx3, .slice Bx4 n4 kx4] 29)).heap.size (w2.alloc (.cells #[.int .i64 f0, .slice Bx1 n1 kx1, .slice Bx2 n2 kx2, .slice Bx3 n3 kx3, .slice Bx4 n4 kx4] 29)) w' → ((w'.cell? ⟨w2.heap.size, 0, none⟩ = some (.int .i64 f0) ∧ w'.cell? ⟨w2.heap.size, 1, none⟩ = some (.slice Bx1 n1 kx1) ∧ w'.cell? ⟨w2.heap.size, 2, none⟩ = some (.slice Bx2 n2 kx2) ∧ w'.cell? ⟨w2.heap.size, 3, none⟩ = some (.slice Bx3 n3 kx3) ∧ w'.cell? ⟨w2.heap.size, 4, none⟩ = some (.slice Bx4 n4 kx4)) ∧ (w'.cell? ⟨W.heap.size + 1, 0, none⟩ = some (.int .i64 k) ∧ w'.cell? ⟨W.heap.size + 1, 1, none⟩ = some (.int .i64 n)))) := Lib.hid (fun w' hb => ⟨⟨(X.out.below hb).1.at_ (g := w2.heap.size) (i := 0) (v := .int .i64 f0) (cs := [.int .i64 f0, .slice Bx1 n1 kx1, .slice Bx2 n2 kx2, .slice Bx3 n3 kx3, .slice Bx4 n4 kx4]) (by repeat (first | exact List.mem_cons_self | refine List.mem_cons_of_mem _ ?_)) rfl, (X.out.below hb).1.at_ (g := w2.heap.size) (i := 1) (v := .slice Bx1 n1 kx1) (cs := [.int .i64 f0, .slice Bx1 n1 kx1, .slice Bx2 n2 kx2, .slice Bx3 n3 kx3, .slice Bx4 n4 kx4]) (by repeat (first | exact List.mem_cons_self | refine List.mem_cons_of_mem _ ?_)) rfl, (X.out.below hb).1.at_ (g := w2.heap.size) (i := 2) (v := .slice Bx2 n2 kx2) (cs := [.int .i64 f0, .slice Bx1 n1 kx1, .slice Bx2 n2 kx2, .slice Bx3 n3 kx3, .slice Bx4 n4 kx4]) (by repeat (first | exact List.mem_cons_self | refine List.mem_cons_of_mem _ ?_)) rfl, (X.out.below hb).1.at_ (g := w2.heap.size) (i := 3) (v := .slice Bx3 n3 kx3) (cs := [.int .i64 f0, .slice Bx1 n1 kx1, .slice Bx2 n2 kx2, .slice Bx3 n3 kx3, .slice Bx4 n4 kx4]) (by repeat (first | exact List.mem_cons_self | refine List.mem_cons_of_mem _ ?_)) rfl, (X.out.below hb).1.at_ (g := w2.heap.size) (i := 4) (v := .slice Bx4 n4 kx4) (cs := [.int .i64 f0, .slice Bx1 n1 kx1, .slice Bx2 n2 kx2, .slice Bx3 n3 kx3, .slice Bx4 n4 kx4]) (by repeat (first | exact List.mem_cons_self | refine List.mem_cons_of_mem _ ?_)) rfl⟩, ⟨(X.out.below hb).1.at_ (g := W.heap.size + 1) (i := 0) (v := .int .i64 k) (cs := [.int .i64 k, .int .i64 n]) (by repeat (first | exact List.mem_cons_self | refine List.mem_cons_of_mem _ ?_)) rfl, (X.out.below hb).1.at_ (g := W.heap.size + 1) (i := 1) (v := .int .i64 n) (cs := [.int .i64 k, .int .i64 n]) (by repeat (first | exact List.mem_cons_self | refine List.mem_cons_of_mem _ ?_)) rfl⟩⟩)
      go_cut [8] from 21 to 24 (fun s9 wq => ∃ g : Nat, s9 = .pointer (some ⟨g, 0, none⟩) ∧ Zx g [.int .i64 v.kind, .int .i64 v.n] wq ∧ Below (w2.alloc (.cells #[.int .i64 f0, .slice Bx1 n1 kx1, .slice Bx2 n2 kx2, .slice Bx3 n3 kx3, .slice Bx4 n4 kx4] 29)).heap.size (w2.alloc (.cells #[.int .i64 f0, .slice Bx1 n1 kx1, .slice Bx2 n2 kx2, .slice Bx3 n3 kx3, .slice Bx4 n4 kx4] 29)) wq)
      case first =>
        have J1 := Lib.hid (X.out.lies (d := .l L1) (cs := [.slice Bx1 n1 kx1]) (by repeat (first | exact List.mem_cons_self | refine List.mem_cons_of_mem _ ?_)))
        have HB : Hid (Below (w2.alloc (.cells #[.int .i64 f0, .slice Bx1 n1 kx1, .slice Bx2 n2 kx2, .slice Bx3 n3 kx3, .slice Bx4 n4 kx4] 29)).heap.size (w2.alloc (.cells #[.int .i64 f0, .slice Bx1 n1 kx1, .slice Bx2 n2 kx2, .slice Bx3 n3 kx3, .slice Bx4 n4 kx4] 29)) (w2.alloc (.cells #[.int .i64 f0, .slice Bx1 n1 kx1, .slice Bx2 n2 kx2, .slice Bx3 n3 kx3, .slice Bx4 n4 kx4] 29)).drew) := Lib.hid (Below.refl _ _).drew
        refine wp_region_held_drew (S := fun w' => (w'.cell? ⟨w2.heap.size, 0, none⟩ = some (.int .i64 f0) ∧ w'.cell? ⟨w2.heap.size, 1, none⟩ = some (.slice Bx1 n1 kx1) ∧ w'.cell? ⟨w2.heap.size, 2, none⟩ = some (.slice Bx2 n2 kx2) ∧ w'.cell? ⟨w2.heap.size, 3, none⟩ = some (.slice Bx3 n3 kx3) ∧ w'.cell? ⟨w2.heap.size, 4, none⟩ = some (.slice Bx4 n4 kx4)) ∧ (w'.cell? ⟨W.heap.size + 1, 0, none⟩ = some (.int .i64 k) ∧ w'.cell? ⟨W.heap.size + 1, 1, none⟩ = some (.int .i64 n))) (by kernel_rfl) ?_ (fun hH0 => ?_)
        · first | exact HS.out _ HB.out | exact HS.out _ ((HB.out.setCell (p := ⟨_, 0, none⟩) hg0 _).setCell (p := ⟨_, 1, none⟩) hg0 _) | exact HS.out _ (HBp.out.alloc HBp.out.size _)
        refine wpAnyH_take (i := 0) (oi := { dst := some 21, op := Op.load 29 (Operand.tmp 7), type := 29, pos := "exact.go:5206", after := #[], guard := none }) (v := ?_) rfl (by kernel_rfl) (by kernel_rfl) (by kernel_rfl) (fun _ _ _ h => h) (Or.inl ⟨by rfl, ?_⟩) hH0 ?_
        rotate_left
        · intro w hSw; (try dsimp only at hSw); go_simp; (try with_reducible rfl)
        simp only [Act.put, List.setIfInBounds_toArray, List.set_cons_zero, List.set_cons_succ]
        refine wpAnyH_take (i := 1) (oi := { dst := some 22, op := Op.load 64 (Operand.tmp 3), type := 64, pos := "exact.go:5206", after := #[], guard := none }) (v := ?_) rfl (by kernel_rfl) (by kernel_rfl) (by kernel_rfl) (fun _ _ _ h => h) (Or.inl ⟨by rfl, ?_⟩) hH0 ?_
        rotate_left
        · intro w hSw; (try dsimp only at hSw); go_simp; (try with_reducible rfl)
        simp only [Act.put, List.setIfInBounds_toArray, List.set_cons_zero, List.set_cons_succ]
        refine wpAnyH_ready (rs := [2, 4]) (by kernel_rfl) (by simp) ?_
        refine AllReadyH.cons (o := { dst := some 23, op := Op.call { callee := Callee.value (Operand.func 33), args := #[Operand.tmp 22], argTypes := #[64] }, type := 31, pos := "exact.go:5206", after := #[{ on := 1, ground := Ground.data }], guard := none }) rfl (fun K hK => ?_) ?_
        · (go_simp; go_at_call 33; (with_reducible refine (toValue k n _).mono ?_); rintro e w1q ⟨rfl, hb⟩; (replace HB := Lib.hid (HB.out.trans (hb.mono HB.out.size))); clear hb; (try (go_wp2_with fail)))
          refine hK.out _ _ ?_ (fun hH1 => ?_)
          · first | exact HS.out _ HB.out | exact HS.out _ ((HB.out.setCell (p := ⟨_, 0, none⟩) hg0 _).setCell (p := ⟨_, 1, none⟩) hg0 _) | exact HS.out _ (HBp.out.alloc HBp.out.size _)
          clear hK K hH0
          (try simp only [Act.put, List.setIfInBounds_toArray, List.set_cons_zero, List.set_cons_succ])
          refine wpAnyH_ready (rs := [3, 4]) (by kernel_rfl) (by simp) ?_
          refine AllReadyH.cons (o := { dst := some 24, op := Op.call { callee := Callee.value (Operand.func 12), args := #[Operand.tmp 21, Operand.tmp 23], argTypes := #[29, 31] }, type := 31, pos := "exact.go:5206", after := #[{ on := 0, ground := Ground.data }, { on := 2, ground := Ground.data }, { on := 2, ground := Ground.chain }], guard := none }) rfl (fun K hK => ?_) ?_
          · (go_simp; go_at_call 12; (with_reducible refine (implLook f0 L1 Bx1 n1 kx1 L2 Bx2 n2 kx2 L3 Bx3 n3 kx3 L4 Bx4 n4 kx4 k n _ (J1.out.below HB.out) ht1 (by have h1 := hc1.out; simp only [Dat.bulk, bulkAll] at hb; omega)).mono ?_); rintro e w2q ⟨rfl, hb⟩; rw [HV.out]; (replace HB := Lib.hid (HB.out.trans (hb.mono HB.out.size))); clear hb; (try (go_wp2_with fail)))
            refine hK.out _ _ ?_ (fun hH2 => ?_)
            · first | exact HS.out _ HB.out | exact HS.out _ ((HB.out.setCell (p := ⟨_, 0, none⟩) hg0 _).setCell (p := ⟨_, 1, none⟩) hg0 _) | exact HS.out _ (HBp.out.alloc HBp.out.size _)
            clear hK K hH1
            (try simp only [Act.put, List.setIfInBounds_toArray, List.set_cons_zero, List.set_cons_succ])
            refine wpAnyH_ready (rs := [4]) (by kernel_rfl) (by simp) ?_
            refine AllReadyH.cons (o := { dst := some 8, op := Op.alloc 31, type := 0, pos := "exact.go:5206", after := #[], guard := none }) rfl (fun K hK => ?_) ?_
            · (go_simp; (have Z : Hid (Zx (w2q.heap.size) [.int .i64 0, .int .i64 0] (w2q.alloc (.cells #[.int .i64 0, .int .i64 0] 31))) := Lib.hid (by have h1 := Zx.new w2q #[.int .i64 0, .int .i64 0] 31; (try simp only [World.size_alloc, World.size_drew] at h1); exact h1)); (have HBp := HB); (have hg0 : (w2.alloc (.cells #[.int .i64 f0, .slice Bx1 n1 kx1, .slice Bx2 n2 kx2, .slice Bx3 n3 kx3, .slice Bx4 n4 kx4] 29)).heap.size ≤ w2q.heap.size := (by have h1 := HB.out.size; (try simp only [World.size_alloc, World.size_drew] at h1); (try simp only [World.size_alloc, World.size_drew]); first | exact h1 | omega)); (replace HB := Lib.hid (HB.out.alloc HB.out.size (.cells #[.int .i64 0, .int .i64 0] 31))); (obtain ⟨zq0, zq1, fq⟩ := Z.out.d2))
              refine hK.out _ _ ?_ (fun hH3 => ?_)
              · first | exact HS.out _ HB.out | exact HS.out _ ((HB.out.setCell (p := ⟨_, 0, none⟩) hg0 _).setCell (p := ⟨_, 1, none⟩) hg0 _) | exact HS.out _ (HBp.out.alloc HBp.out.size _)
              clear hK K hH2
              (try simp only [Act.put, List.setIfInBounds_toArray, List.set_cons_zero, List.set_cons_succ])
              refine wpAnyH_ready (rs := [5]) (by kernel_rfl) (by simp) ?_
              refine AllReadyH.cons (o := { dst := none, op := Op.store 31 (Operand.tmp 8) (Operand.tmp 24), type := 0, pos := "exact.go:5206", after := #[{ on := 4, ground := Ground.data }, { on := 3, ground := Ground.data }, { on := 3, ground := Ground.chain }, { on := 0, ground := Ground.phase }, { on := 1, ground := Ground.phase }, { on := 2, ground := Ground.phase }, { on := 3, ground := Ground.phase }, { on := 4, ground := Ground.phase }], guard := none }) rfl (fun K hK => ?_) ?_
              · go_simp
                refine hK.out _ _ ?_ (fun hH4 => ?_)
                · first | exact HS.out _ HB.out | exact HS.out _ ((HB.out.setCell (p := ⟨_, 0, none⟩) hg0 _).setCell (p := ⟨_, 1, none⟩) hg0 _) | exact HS.out _ (HBp.out.alloc HBp.out.size _)
                clear hK K hH3
                (try simp only [Act.put, List.setIfInBounds_toArray, List.set_cons_zero, List.set_cons_succ])
                refine wpAnyH_done (by kernel_rfl) ?_ _
                go_wp2_with fail
                go_meet
                first
                | exact ⟨_, rfl, ((Z.out.put 0 _).put 1 _), ((HB.out.setCell (p := ⟨_, 0, none⟩) hg0 _).setCell (p := ⟨_, 1, none⟩) hg0 _)⟩
                | exact ⟨_, rfl, Zx.new _ #[.int .i64 v.kind, .int .i64 v.n] _, HBp.out.alloc HBp.out.size _⟩
              exact AllReadyH.nil
            exact AllReadyH.nil
          refine AllReadyH.cons (o := { dst := some 8, op := Op.alloc 31, type := 0, pos := "exact.go:5206", after := #[], guard := none }) rfl (fun K hK => ?_) ?_
          · (go_simp; (have Z : Hid (Zx (w1q.heap.size) [.int .i64 0, .int .i64 0] (w1q.alloc (.cells #[.int .i64 0, .int .i64 0] 31))) := Lib.hid (by have h1 := Zx.new w1q #[.int .i64 0, .int .i64 0] 31; (try simp only [World.size_alloc, World.size_drew] at h1); exact h1)); (have HBp := HB); (have hg0 : (w2.alloc (.cells #[.int .i64 f0, .slice Bx1 n1 kx1, .slice Bx2 n2 kx2, .slice Bx3 n3 kx3, .slice Bx4 n4 kx4] 29)).heap.size ≤ w1q.heap.size := (by have h1 := HB.out.size; (try simp only [World.size_alloc, World.size_drew] at h1); (try simp only [World.size_alloc, World.size_drew]); first | exact h1 | omega)); (replace HB := Lib.hid (HB.out.alloc HB.out.size (.cells #[.int .i64 0, .int .i64 0] 31))); (obtain ⟨zq0, zq1, fq⟩ := Z.out.d2))
            refine hK.out _ _ ?_ (fun hH5 => ?_)
            · first | exact HS.out _ HB.out | exact HS.out _ ((HB.out.setCell (p := ⟨_, 0, none⟩) hg0 _).setCell (p := ⟨_, 1, none⟩) hg0 _) | exact HS.out _ (HBp.out.alloc HBp.out.size _)
            clear hK K hH1
            (try simp only [Act.put, List.setIfInBounds_toArray, List.set_cons_zero, List.set_cons_succ])
            refine wpAnyH_ready (rs := [3]) (by kernel_rfl) (by simp) ?_
            refine AllReadyH.cons (o := { dst := some 24, op := Op.call { callee := Callee.value (Operand.func 12), args := #[Operand.tmp 21, Operand.tmp 23], argTypes := #[29, 31] }, type := 31, pos := "exact.go:5206", after := #[{ on := 0, ground := Ground.data }, { on := 2, ground := Ground.data }, { on := 2, ground := Ground.chain }], guard := none }) rfl (fun K hK => ?_) ?_
            · (go_simp; go_at_call 12; (with_reducible refine (implLook f0 L1 Bx1 n1 kx1 L2 Bx2 n2 kx2 L3 Bx3 n3 kx3 L4 Bx4 n4 kx4 k n _ (J1.out.below HB.out) ht1 (by have h1 := hc1.out; simp only [Dat.bulk, bulkAll] at hb; omega)).mono ?_); rintro e w2q ⟨rfl, hb⟩; rw [HV.out]; (replace HB := Lib.hid (HB.out.trans (hb.mono HB.out.size))); (replace Z := Lib.hid (Z.out.below hb)); (obtain ⟨zq0, zq1, fq⟩ := Z.out.d2); clear hb; (try (go_wp2_with fail)))
              refine hK.out _ _ ?_ (fun hH6 => ?_)
              · first | exact HS.out _ HB.out | exact HS.out _ ((HB.out.setCell (p := ⟨_, 0, none⟩) hg0 _).setCell (p := ⟨_, 1, none⟩) hg0 _) | exact HS.out _ (HBp.out.alloc HBp.out.size _)
              clear hK K hH5
              (try simp only [Act.put, List.setIfInBounds_toArray, List.set_cons_zero, List.set_cons_succ])
              refine wpAnyH_ready (rs := [5]) (by kernel_rfl) (by simp) ?_
              refine AllReadyH.cons (o := { dst := none, op := Op.store 31 (Operand.tmp 8) (Operand.tmp 24), type := 0, pos := "exact.go:5206", after := #[{ on := 4, ground := Ground.data }, { on := 3, ground := Ground.data }, { on := 3, ground := Ground.chain }, { on := 0, ground := Ground.phase }, { on := 1, ground := Ground.phase }, { on := 2, ground := Ground.phase }, { on := 3, ground := Ground.phase }, { on := 4, ground := Ground.phase }], guard := none }) rfl (fun K hK => ?_) ?_
              · go_simp
                refine hK.out _ _ ?_ (fun hH7 => ?_)
                · first | exact HS.out _ HB.out | exact HS.out _ ((HB.out.setCell (p := ⟨_, 0, none⟩) hg0 _).setCell (p := ⟨_, 1, none⟩) hg0 _) | exact HS.out _ (HBp.out.alloc HBp.out.size _)
                clear hK K hH6
                (try simp only [Act.put, List.setIfInBounds_toArray, List.set_cons_zero, List.set_cons_succ])
                refine wpAnyH_done (by kernel_rfl) ?_ _
                go_wp2_with fail
                go_meet
                first
                | exact ⟨_, rfl, ((Z.out.put 0 _).put 1 _), ((HB.out.setCell (p := ⟨_, 0, none⟩) hg0 _).setCell (p := ⟨_, 1, none⟩) hg0 _)⟩
                | exact ⟨_, rfl, Zx.new _ #[.int .i64 v.kind, .int .i64 v.n] _, HBp.out.alloc HBp.out.size _⟩
              exact AllReadyH.nil
            exact AllReadyH.nil
          exact AllReadyH.nil
        refine AllReadyH.cons (o := { dst := some 8, op := Op.alloc 31, type := 0, pos := "exact.go:5206", after := #[], guard := none }) rfl (fun K hK => ?_) ?_
        · (go_simp; (have Z : Hid (Zx (w2.heap.size + 1) [.int .i64 0, .int .i64 0] (((w2.alloc (.cells #[.int .i64 f0, .slice Bx1 n1 kx1, .slice Bx2 n2 kx2, .slice Bx3 n3 kx3, .slice Bx4 n4 kx4] 29)).alloc (.cells #[.int .i64 0, .int .i64 0] 31)).drew)) := Lib.hid (by have h1 := (Zx.new (w2.alloc (.cells #[.int .i64 f0, .slice Bx1 n1 kx1, .slice Bx2 n2 kx2, .slice Bx3 n3 kx3, .slice Bx4 n4 kx4] 29)) #[.int .i64 0, .int .i64 0] 31).below (Below.refl _ _).drew; (try simp only [World.size_alloc, World.size_drew] at h1); exact h1)); (have HBp := HB); (have hg0 : (w2.alloc (.cells #[.int .i64 f0, .slice Bx1 n1 kx1, .slice Bx2 n2 kx2, .slice Bx3 n3 kx3, .slice Bx4 n4 kx4] 29)).heap.size ≤ w2.heap.size + 1 := (by (try simp only [World.size_alloc, World.size_drew]); omega)); (replace HB := Lib.hid ((Below.refl (w2.alloc (.cells #[.int .i64 f0, .slice Bx1 n1 kx1, .slice Bx2 n2 kx2, .slice Bx3 n3 kx3, .slice Bx4 n4 kx4] 29)).heap.size (w2.alloc (.cells #[.int .i64 f0, .slice Bx1 n1 kx1, .slice Bx2 n2 kx2, .slice Bx3 n3 kx3, .slice Bx4 n4 kx4] 29))).alloc (Nat.le_refl _) (.cells #[.int .i64 0, .int .i64 0] 31)).drew); (obtain ⟨zq0, zq1, fq⟩ := Z.out.d2))
          refine hK.out _ _ ?_ (fun hH8 => ?_)
          · first | exact HS.out _ HB.out | exact HS.out _ ((HB.out.setCell (p := ⟨_, 0, none⟩) hg0 _).setCell (p := ⟨_, 1, none⟩) hg0 _) | exact HS.out _ (HBp.out.alloc HBp.out.size _)
          clear hK K hH0
          (try simp only [Act.put, List.setIfInBounds_toArray, List.set_cons_zero, List.set_cons_succ])
          refine wpAnyH_ready (rs := [2]) (by kernel_rfl) (by simp) ?_
          refine AllReadyH.cons (o := { dst := some 23, op := Op.call { callee := Callee.value (Operand.func 33), args := #[Operand.tmp 22], argTypes := #[64] }, type := 31, pos := "exact.go:5206", after := #[{ on := 1, ground := Ground.data }], guard := none }) rfl (fun K hK => ?_) ?_
          · (go_simp; go_at_call 33; (with_reducible refine (toValue k n _).mono ?_); rintro e w1q ⟨rfl, hb⟩; (replace HB := Lib.hid (HB.out.trans (hb.mono HB.out.size))); (replace Z := Lib.hid (Z.out.below hb)); (obtain ⟨zq0, zq1, fq⟩ := Z.out.d2); clear hb; (try (go_wp2_with fail)))
            refine hK.out _ _ ?_ (fun hH9 => ?_)
            · first | exact HS.out _ HB.out | exact HS.out _ ((HB.out.setCell (p := ⟨_, 0, none⟩) hg0 _).setCell (p := ⟨_, 1, none⟩) hg0 _) | exact HS.out _ (HBp.out.alloc HBp.out.size _)
            clear hK K hH8
            (try simp only [Act.put, List.setIfInBounds_toArray, List.set_cons_zero, List.set_cons_succ])
            refine wpAnyH_ready (rs := [3]) (by kernel_rfl) (by simp) ?_
            refine AllReadyH.cons (o := { dst := some 24, op := Op.call { callee := Callee.value (Operand.func 12), args := #[Operand.tmp 21, Operand.tmp 23], argTypes := #[29, 31] }, type := 31, pos := "exact.go:5206", after := #[{ on := 0, ground := Ground.data }, { on := 2, ground := Ground.data }, { on := 2, ground := Ground.chain }], guard := none }) rfl (fun K hK => ?_) ?_
            · (go_simp; go_at_call 12; (with_reducible refine (implLook f0 L1 Bx1 n1 kx1 L2 Bx2 n2 kx2 L3 Bx3 n3 kx3 L4 Bx4 n4 kx4 k n _ (J1.out.below HB.out) ht1 (by have h1 := hc1.out; simp only [Dat.bulk, bulkAll] at hb; omega)).mono ?_); rintro e w2q ⟨rfl, hb⟩; rw [HV.out]; (replace HB := Lib.hid (HB.out.trans (hb.mono HB.out.size))); (replace Z := Lib.hid (Z.out.below hb)); (obtain ⟨zq0, zq1, fq⟩ := Z.out.d2); clear hb; (try (go_wp2_with fail)))
              refine hK.out _ _ ?_ (fun hH10 => ?_)
              · first | exact HS.out _ HB.out | exact HS.out _ ((HB.out.setCell (p := ⟨_, 0, none⟩) hg0 _).setCell (p := ⟨_, 1, none⟩) hg0 _) | exact HS.out _ (HBp.out.alloc HBp.out.size _)
              clear hK K hH9
              (try simp only [Act.put, List.setIfInBounds_toArray, List.set_cons_zero, List.set_cons_succ])
              refine wpAnyH_ready (rs := [5]) (by kernel_rfl) (by simp) ?_
              refine AllReadyH.cons (o := { dst := none, op := Op.store 31 (Operand.tmp 8) (Operand.tmp 24), type := 0, pos := "exact.go:5206", after := #[{ on := 4, ground := Ground.data }, { on := 3, ground := Ground.data }, { on := 3, ground := Ground.chain }, { on := 0, ground := Ground.phase }, { on := 1, ground := Ground.phase }, { on := 2, ground := Ground.phase }, { on := 3, ground := Ground.phase }, { on := 4, ground := Ground.phase }], guard := none }) rfl (fun K hK => ?_) ?_
              · go_simp
                refine hK.out _ _ ?_ (fun hH11 => ?_)
                · first | exact HS.out _ HB.out | exact HS.out _ ((HB.out.setCell (p := ⟨_, 0, none⟩) hg0 _).setCell (p := ⟨_, 1, none⟩) hg0 _) | exact HS.out _ (HBp.out.alloc HBp.out.size _)
                clear hK K hH10
                (try simp only [Act.put, List.setIfInBounds_toArray, List.set_cons_zero, List.set_cons_succ])
                refine wpAnyH_done (by kernel_rfl) ?_ _
                go_wp2_with fail
                go_meet
                first
                | exact ⟨_, rfl, ((Z.out.put 0 _).put 1 _), ((HB.out.setCell (p := ⟨_, 0, none⟩) hg0 _).setCell (p := ⟨_, 1, none⟩) hg0 _)⟩
                | exact ⟨_, rfl, Zx.new _ #[.int .i64 v.kind, .int .i64 v.n] _, HBp.out.alloc HBp.out.size _⟩
              exact AllReadyH.nil
            exact AllReadyH.nil
          exact AllReadyH.nil
        exact AllReadyH.nil
      case rest =>
        rename World => wq
        obtain ⟨g8, rfl, hZ, hb⟩ := hcut
        replace X := Lib.hid (St.box_ (X.out.below hb) hZ.1)
        clear hb hZ HS
        have p0 := X.out.1.at_ (g := g8) (i := 0) (v := .int .i64 v.kind) (cs := [.int .i64 v.kind, .int .i64 v.n]) (by repeat (first | exact List.mem_cons_self | refine List.mem_cons_of_mem _ ?_)) rfl
        have p1 := X.out.1.at_ (g := g8) (i := 1) (v := .int .i64 v.n) (cs := [.int .i64 v.kind, .int .i64 v.n]) (by repeat (first | exact List.mem_cons_self | refine List.mem_cons_of_mem _ ?_)) rfl
        have q0 := X.out.1.at_ (g := g6) (i := 0) (v := .int .i64 v.kind) (cs := [.int .i64 v.kind, .int .i64 v.n]) (by repeat (first | exact List.mem_cons_self | refine List.mem_cons_of_mem _ ?_)) rfl
        have q1 := X.out.1.at_ (g := g6) (i := 1) (v := .int .i64 v.n) (cs := [.int .i64 v.kind, .int .i64 v.n]) (by repeat (first | exact List.mem_cons_self | refine List.mem_cons_of_mem _ ?_)) rfl
        go_wp2_with fail
        refine (eqValue v.kind v.n _).mono ?_
        rintro e w23 ⟨rfl, hb⟩
        replace X := Lib.hid (X.out.below hb)
        clear hb
        clear p0 p1
        clear q0 q1
        obtain ⟨p0, p1, p2, p3, p4⟩ := (X.out.1.box (g := w2.heap.size) (cs := [.int .i64 f0, .slice Bx1 n1 kx1, .slice Bx2 n2 kx2, .slice Bx3 n3 kx3, .slice Bx4 n4 kx4]) (by repeat (first | exact List.mem_cons_self | refine List.mem_cons_of_mem _ ?_))).c5
        obtain ⟨x0, x1, x2, x3, x4⟩ := (X.out.1.box (g := W.heap.size) (cs := [.int .i64 f0, .slice A1 n1 c1, .slice A2 n2 c2, .slice A3 n3 c3, .slice A4 n4 c4]) (by repeat (first | exact List.mem_cons_self | refine List.mem_cons_of_mem _ ?_))).c5
        go_wp2_with fail
        replace X := Lib.hid X.out.drew
        go_region_held3 (fun w' => (w'.cell? ⟨w2.heap.size, 0, none⟩ = some (.int .i64 f0) ∧ w'.cell? ⟨w2.heap.size, 1, none⟩ = some (.slice Bx1 n1 kx1) ∧ w'.cell? ⟨w2.heap.size, 2, none⟩ = some (.slice Bx2 n2 kx2) ∧ w'.cell? ⟨w2.heap.size, 3, none⟩ = some (.slice Bx3 n3 kx3) ∧ w'.cell? ⟨w2.heap.size, 4, none⟩ = some (.slice Bx4 n4 kx4)) ∧ (w'.cell? ⟨W.heap.size, 0, none⟩ = some (.int .i64 f0) ∧ w'.cell? ⟨W.heap.size, 1, none⟩ = some (.slice A1 n1 c1) ∧ w'.cell? ⟨W.heap.size, 2, none⟩ = some (.slice A2 n2 c2) ∧ w'.cell? ⟨W.heap.size, 3, none⟩ = some (.slice A3 n3 c3) ∧ w'.cell? ⟨W.heap.size, 4, none⟩ = some (.slice A4 n4 c4)))
          (first | with_reducible exact ⟨(X.out.c5 (b := w2.heap.size) (v0 := .int .i64 f0) (v1 := .slice Bx1 n1 kx1) (v2 := .slice Bx2 n2 kx2) (v3 := .slice Bx3 n3 kx3) (v4 := .slice Bx4 n4 kx4) (by repeat (first | exact List.mem_cons_self | refine List.mem_cons_of_mem _ ?_))), (X.out.c5 (b := W.heap.size) (v0 := .int .i64 f0) (v1 := .slice A1 n1 c1) (v2 := .slice A2 n2 c2) (v3 := .slice A3 n3 c3) (v4 := .slice A4 n4 c4) (by repeat (first | exact List.mem_cons_self | refine List.mem_cons_of_mem _ ?_)))⟩ | go_keep)
          (first
          | (go_at_call 30; (with_reducible refine (toVat f0 L1 A1 n1 c1 L2 A2 n2 c2 L3 A3 n3 c3 L4 A4 n4 c4 _ (X.out.lies (d := .l L1) (cs := [.slice A1 n1 c1]) (by repeat (first | exact List.mem_cons_self | refine List.mem_cons_of_mem _ ?_))) ht1 hq1 (X.out.lies (d := .l L2) (cs := [.slice A2 n2 c2]) (by repeat (first | exact List.mem_cons_self | refine List.mem_cons_of_mem _ ?_))) ht2 hq2 (X.out.lies (d := .l L3) (cs := [.slice A3 n3 c3]) (by repeat (first | exact List.mem_cons_self | refine List.mem_cons_of_mem _ ?_))) ht3 hq3 (X.out.lies (d := .l L4) (cs := [.slice A4 n4 c4]) (by repeat (first | exact List.mem_cons_self | refine List.mem_cons_of_mem _ ?_))) ht4 hq4).mono ?_); rintro e u5 ⟨Bu1, ku1, Bu2, ku2, Bu3, ku3, Bu4, ku4, a1, a2, a3, rfl, hO1, hO2, hO3, hO4, -, -, -, -, hb5⟩; replace X := Lib.hid (((((X.out.below hb5).lie hO1.lies).lie hO2.lies).lie hO3.lies).lie hO4.lies); clear hb5 hO1 hO2 hO3 hO4)
          | (go_at_call 23; (with_reducible refine (eqVat f0 L1 Bx1 n1 kx1 L2 Bx2 n2 kx2 L3 Bx3 n3 kx3 L4 Bx4 n4 kx4 Bu1 ku1 Bu2 ku2 Bu3 ku3 Bu4 ku4 _ (X.out.lies (d := .l L1) (cs := [.slice Bx1 n1 kx1]) (by repeat (first | exact List.mem_cons_self | refine List.mem_cons_of_mem _ ?_))) (X.out.lies (d := .l L1) (cs := [.slice Bu1 n1 ku1]) (by repeat (first | exact List.mem_cons_self | refine List.mem_cons_of_mem _ ?_))) ht1 hm1 (X.out.lies (d := .l L2) (cs := [.slice Bx2 n2 kx2]) (by repeat (first | exact List.mem_cons_self | refine List.mem_cons_of_mem _ ?_))) (X.out.lies (d := .l L2) (cs := [.slice Bu2 n2 ku2]) (by repeat (first | exact List.mem_cons_self | refine List.mem_cons_of_mem _ ?_))) ht2 hm2 (X.out.lies (d := .l L3) (cs := [.slice Bx3 n3 kx3]) (by repeat (first | exact List.mem_cons_self | refine List.mem_cons_of_mem _ ?_))) (X.out.lies (d := .l L3) (cs := [.slice Bu3 n3 ku3]) (by repeat (first | exact List.mem_cons_self | refine List.mem_cons_of_mem _ ?_))) ht3 hm3 (X.out.lies (d := .l L4) (cs := [.slice Bx4 n4 kx4]) (by repeat (first | exact List.mem_cons_self | refine List.mem_cons_of_mem _ ?_))) (X.out.lies (d := .l L4) (cs := [.slice Bu4 n4 ku4]) (by repeat (first | exact List.mem_cons_self | refine List.mem_cons_of_mem _ ?_))) ht4 hm4).mono ?_); rintro e u6 ⟨rfl, hb5⟩; replace X := Lib.hid (X.out.below hb5); clear hb5))
        all_goals (
          try clear p0 p1 p2 p3 p4 x0 x1 x2 x3 x4
          go_wp2_with fail
          go_ret
          exact GivesBool.ret X.out.low)
end Go.Proofs.Ytmeacgpebpfpbaa
