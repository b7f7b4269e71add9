/- Exact laws of chapter 12: LinkTo, IsUp. -/
import Derived.Test.YtmeacgpebpfpbaaLawV0
import Derived.Test.YtmeacgpebpfpbaaVatS
import Derived.Test.YtmeacgpebpfpbaaVatF
import Derived.Test.YtmeacgpebpfpbaaTyV4
import Derived.Test.YtmeacgpebpfpbaaTyV6
import Derived.Test.YtmeacgpebpfpbaaTyV8
import Derived.Deep.RegionHeld3
import Derived.LoopTactic
import Derived.Lib.Hide
import Derived.Deep.QuietTactic
import Derived.BigQuiet
import Derived.Deep.RegionWith
import Derived.Handy
namespace Go.Proofs.Ytmeacgpebpfpbaa
open Go.RowKit
set_option linter.unusedVariables false
set_option linter.unusedSimpArgs false
set_option maxRecDepth 100000 in
set_option maxHeartbeats 16000000 in
theorem law_LinkTo (f0 : Int) (L1 : List Dat) (A1 : Option Addr) (n1 c1 : Nat) (L2 : List Dat) (A2 : Option Addr) (n2 c2 : Nat) (L3 : List Dat) (A3 : Option Addr) (n3 c3 : Nat) (L4 : List Dat) (A4 : Option Addr) (n4 c4 : Nat) (x : Int) (W : World) (hl1 : Lies W (.l L1) [.slice A1 n1 c1]) (ht1 : ∀ x ∈ L1, Has tyEntity x) (hm1 : n1 ≤ 9223372036854775807) (hl2 : Lies W (.l L2) [.slice A2 n2 c2]) (ht2 : ∀ x ∈ L2, Has tySent x) (hm2 : n2 ≤ 9223372036854775807) (hl3 : Lies W (.l L3) [.slice A3 n3 c3]) (ht3 : ∀ x ∈ L3, Has tyLink x) (hm3 : n3 ≤ 9223372036854775807) (hl4 : Lies W (.l L4) [.slice A4 n4 c4]) (ht4 : ∀ x ∈ L4, Has tyOutgoing x) (hm4 : n4 ≤ 9223372036854775807) :
    Calls Try.prog 5 #[.agg #[.int .i64 f0, .slice A1 n1 c1, .slice A2 n2 c2, .slice A3 n3 c3, .slice A4 n4 c4], .int .i64 x] W (GivesBool true W) := by
  have X := Lib.hid (((((St.start W).lie hl1).lie hl2).lie hl3).lie hl4)
  have hc1 := Lib.hid hl1.count
  have hc2 := Lib.hid hl2.count
  have hc3 := Lib.hid hl3.count
  have hc4 := Lib.hid hl4.count
  clear hl1 hl2 hl3 hl4
  replace X := Lib.hid (X.out.push #[.int .i64 f0, .slice A1 n1 c1, .slice A2 n2 c2, .slice A3 n3 c3, .slice A4 n4 c4] 60)
  obtain ⟨v, hv⟩ : ∃ v, idx (peerIs x) L3 = v := ⟨_, rfl⟩
  have HV := Lib.hid hv
  clear hv
  rcases leftD_cases (.r [.i f0, .l L1, .l L2, .l L3, .l L4] : Dat) 1048576 with hbig | ⟨r, hr, hr0, hr1, hb⟩
  case inl =>
    have HBIG := Lib.hid hbig
    clear hbig
    go_enter Try.func5, Try.ntmps5
    obtain ⟨x0, x1, x2, x3, x4⟩ := (X.out.1.box (g := W.heap.size) (cs := [.int .i64 f0, .slice A1 n1 c1, .slice A2 n2 c2, .slice A3 n3 c3, .slice A4 n4 c4]) (by repeat (first | exact List.mem_cons_self | refine List.mem_cons_of_mem _ ?_))).c5
    go_wp2_with fail
    refine (szVat f0 L1 A1 n1 c1 L2 A2 n2 c2 L3 A3 n3 c3 L4 A4 n4 c4 (1048576) _ (by omega) (by omega) (X.out.lies (d := .l L1) (cs := [.slice A1 n1 c1]) (by repeat (first | exact List.mem_cons_self | refine List.mem_cons_of_mem _ ?_))) ht1 hm1 (X.out.lies (d := .l L2) (cs := [.slice A2 n2 c2]) (by repeat (first | exact List.mem_cons_self | refine List.mem_cons_of_mem _ ?_))) ht2 hm2 (X.out.lies (d := .l L3) (cs := [.slice A3 n3 c3]) (by repeat (first | exact List.mem_cons_self | refine List.mem_cons_of_mem _ ?_))) ht3 hm3 (X.out.lies (d := .l L4) (cs := [.slice A4 n4 c4]) (by repeat (first | exact List.mem_cons_self | refine List.mem_cons_of_mem _ ?_))) ht4 hm4).mono ?_
    rintro e w1 ⟨rfl, hb⟩
    rw [HBIG.out]
    replace X := Lib.hid (X.out.below hb)
    clear hb
    clear x0 x1 x2 x3 x4
    go_wp2_with fail
    go_ret
    exact GivesBool.ret X.out.low
  case inr =>
    have HR := Lib.hid hr
    clear hr
    have hq1 : (Dat.l L1).bulk ≤ 1099511627776 := by simp only [Dat.bulk, bulkAll] at hb ⊢; omega
    have hn1 : n1 ≤ 1099511627776 := by have h1 := hc1.out; simp only [Dat.bulk, bulkAll] at hb; omega
    have hq2 : (Dat.l L2).bulk ≤ 1099511627776 := by simp only [Dat.bulk, bulkAll] at hb ⊢; omega
    have hn2 : n2 ≤ 1099511627776 := by have h1 := hc2.out; simp only [Dat.bulk, bulkAll] at hb; omega
    have hq3 : (Dat.l L3).bulk ≤ 1099511627776 := by simp only [Dat.bulk, bulkAll] at hb ⊢; omega
    have hn3 : n3 ≤ 1099511627776 := by have h1 := hc3.out; simp only [Dat.bulk, bulkAll] at hb; omega
    have hq4 : (Dat.l L4).bulk ≤ 1099511627776 := by simp only [Dat.bulk, bulkAll] at hb ⊢; omega
    have hn4 : n4 ≤ 1099511627776 := by have h1 := hc4.out; simp only [Dat.bulk, bulkAll] at hb; omega
    go_enter Try.func5, Try.ntmps5
    obtain ⟨x0, x1, x2, x3, x4⟩ := (X.out.1.box (g := W.heap.size) (cs := [.int .i64 f0, .slice A1 n1 c1, .slice A2 n2 c2, .slice A3 n3 c3, .slice A4 n4 c4]) (by repeat (first | exact List.mem_cons_self | refine List.mem_cons_of_mem _ ?_))).c5
    go_wp2_with fail
    refine (szVat f0 L1 A1 n1 c1 L2 A2 n2 c2 L3 A3 n3 c3 L4 A4 n4 c4 (1048576) _ (by omega) (by omega) (X.out.lies (d := .l L1) (cs := [.slice A1 n1 c1]) (by repeat (first | exact List.mem_cons_self | refine List.mem_cons_of_mem _ ?_))) ht1 hm1 (X.out.lies (d := .l L2) (cs := [.slice A2 n2 c2]) (by repeat (first | exact List.mem_cons_self | refine List.mem_cons_of_mem _ ?_))) ht2 hm2 (X.out.lies (d := .l L3) (cs := [.slice A3 n3 c3]) (by repeat (first | exact List.mem_cons_self | refine List.mem_cons_of_mem _ ?_))) ht3 hm3 (X.out.lies (d := .l L4) (cs := [.slice A4 n4 c4]) (by repeat (first | exact List.mem_cons_self | refine List.mem_cons_of_mem _ ?_))) ht4 hm4).mono ?_
    rintro e w1 ⟨rfl, hb⟩
    rw [HR.out]
    replace X := Lib.hid (X.out.below hb)
    clear hb
    clear x0 x1 x2 x3 x4
    obtain ⟨x0, x1, x2, x3, x4⟩ := (X.out.1.box (g := W.heap.size) (cs := [.int .i64 f0, .slice A1 n1 c1, .slice A2 n2 c2, .slice A3 n3 c3, .slice A4 n4 c4]) (by repeat (first | exact List.mem_cons_self | refine List.mem_cons_of_mem _ ?_))).c5
    go_wp2_with fail
    refine (toVat f0 L1 A1 n1 c1 L2 A2 n2 c2 L3 A3 n3 c3 L4 A4 n4 c4 _ (X.out.lies (d := .l L1) (cs := [.slice A1 n1 c1]) (by repeat (first | exact List.mem_cons_self | refine List.mem_cons_of_mem _ ?_))) ht1 hq1 (X.out.lies (d := .l L2) (cs := [.slice A2 n2 c2]) (by repeat (first | exact List.mem_cons_self | refine List.mem_cons_of_mem _ ?_))) ht2 hq2 (X.out.lies (d := .l L3) (cs := [.slice A3 n3 c3]) (by repeat (first | exact List.mem_cons_self | refine List.mem_cons_of_mem _ ?_))) ht3 hq3 (X.out.lies (d := .l L4) (cs := [.slice A4 n4 c4]) (by repeat (first | exact List.mem_cons_self | refine List.mem_cons_of_mem _ ?_))) ht4 hq4).mono ?_
    rintro e w2 ⟨Bt1, kt1, Bt2, kt2, Bt3, kt3, Bt4, kt4, a1, a2, a3, rfl, hO1, hO2, hO3, hO4, -, -, -, -, hb⟩
    replace X := Lib.hid (((((X.out.below hb).lie hO1.lies).lie hO2.lies).lie hO3.lies).lie hO4.lies)
    clear hb hO1 hO2 hO3 hO4
    clear x0 x1 x2 x3 x4
    go_wp2_with fail
    refine (specLinkTo f0 L1 Bt1 n1 kt1 L2 Bt2 n2 kt2 L3 Bt3 n3 kt3 L4 Bt4 n4 kt4 x _ (X.out.lies (d := .l L3) (cs := [.slice Bt3 n3 kt3]) (by repeat (first | exact List.mem_cons_self | refine List.mem_cons_of_mem _ ?_))) ht3 hn3).mono ?_
    rintro e w3 ⟨rfl, hb⟩
    rw [HV.out]
    replace X := Lib.hid (X.out.below hb)
    clear hb
    obtain ⟨x0, x1, x2, x3, x4⟩ := (X.out.1.box (g := W.heap.size) (cs := [.int .i64 f0, .slice A1 n1 c1, .slice A2 n2 c2, .slice A3 n3 c3, .slice A4 n4 c4]) (by repeat (first | exact List.mem_cons_self | refine List.mem_cons_of_mem _ ?_))).c5
    go_wp2_with fail
    refine (toVat f0 L1 A1 n1 c1 L2 A2 n2 c2 L3 A3 n3 c3 L4 A4 n4 c4 _ (X.out.lies (d := .l L1) (cs := [.slice A1 n1 c1]) (by repeat (first | exact List.mem_cons_self | refine List.mem_cons_of_mem _ ?_))) ht1 hq1 (X.out.lies (d := .l L2) (cs := [.slice A2 n2 c2]) (by repeat (first | exact List.mem_cons_self | refine List.mem_cons_of_mem _ ?_))) ht2 hq2 (X.out.lies (d := .l L3) (cs := [.slice A3 n3 c3]) (by repeat (first | exact List.mem_cons_self | refine List.mem_cons_of_mem _ ?_))) ht3 hq3 (X.out.lies (d := .l L4) (cs := [.slice A4 n4 c4]) (by repeat (first | exact List.mem_cons_self | refine List.mem_cons_of_mem _ ?_))) ht4 hq4).mono ?_
    rintro e w4 ⟨Bx1, kx1, Bx2, kx2, Bx3, kx3, Bx4, kx4, a1, a2, a3, rfl, hO1, hO2, hO3, hO4, -, -, -, -, hb⟩
    replace X := Lib.hid (((((X.out.below hb).lie hO1.lies).lie hO2.lies).lie hO3.lies).lie hO4.lies)
    clear hb hO1 hO2 hO3 hO4
    clear x0 x1 x2 x3 x4
    replace X := Lib.hid (X.out.push #[.int .i64 f0, .slice Bx1 n1 kx1, .slice Bx2 n2 kx2, .slice Bx3 n3 kx3, .slice Bx4 n4 kx4] 29)
    obtain ⟨p0, p1, p2, p3, p4⟩ := (X.out.1.box (g := w4.heap.size) (cs := [.int .i64 f0, .slice Bx1 n1 kx1, .slice Bx2 n2 kx2, .slice Bx3 n3 kx3, .slice Bx4 n4 kx4]) (by repeat (first | exact List.mem_cons_self | refine List.mem_cons_of_mem _ ?_))).c5
    go_wp2_with fail
    refine (implLinkTo f0 L1 Bx1 n1 kx1 L2 Bx2 n2 kx2 L3 Bx3 n3 kx3 L4 Bx4 n4 kx4 x _ (X.out.lies (d := .l L3) (cs := [.slice Bx3 n3 kx3]) (by repeat (first | exact List.mem_cons_self | refine List.mem_cons_of_mem _ ?_))) ht3 hn3).mono ?_
    rintro e w5 ⟨rfl, hb⟩
    rw [HV.out]
    replace X := Lib.hid (X.out.below hb)
    clear hb
    clear p0 p1 p2 p3 p4
    obtain ⟨p0, p1, p2, p3, p4⟩ := (X.out.1.box (g := w4.heap.size) (cs := [.int .i64 f0, .slice Bx1 n1 kx1, .slice Bx2 n2 kx2, .slice Bx3 n3 kx3, .slice Bx4 n4 kx4]) (by repeat (first | exact List.mem_cons_self | refine List.mem_cons_of_mem _ ?_))).c5
    obtain ⟨x0, x1, x2, x3, x4⟩ := (X.out.1.box (g := W.heap.size) (cs := [.int .i64 f0, .slice A1 n1 c1, .slice A2 n2 c2, .slice A3 n3 c3, .slice A4 n4 c4]) (by repeat (first | exact List.mem_cons_self | refine List.mem_cons_of_mem _ ?_))).c5
    go_wp2_with fail
    replace X := Lib.hid X.out.drew
    go_region_held3 (fun w' => (w'.cell? ⟨w4.heap.size, 0, none⟩ = some (.int .i64 f0) ∧ w'.cell? ⟨w4.heap.size, 1, none⟩ = some (.slice Bx1 n1 kx1) ∧ w'.cell? ⟨w4.heap.size, 2, none⟩ = some (.slice Bx2 n2 kx2) ∧ w'.cell? ⟨w4.heap.size, 3, none⟩ = some (.slice Bx3 n3 kx3) ∧ w'.cell? ⟨w4.heap.size, 4, none⟩ = some (.slice Bx4 n4 kx4)) ∧ (w'.cell? ⟨W.heap.size, 0, none⟩ = some (.int .i64 f0) ∧ w'.cell? ⟨W.heap.size, 1, none⟩ = some (.slice A1 n1 c1) ∧ w'.cell? ⟨W.heap.size, 2, none⟩ = some (.slice A2 n2 c2) ∧ w'.cell? ⟨W.heap.size, 3, none⟩ = some (.slice A3 n3 c3) ∧ w'.cell? ⟨W.heap.size, 4, none⟩ = some (.slice A4 n4 c4)))
      (first | with_reducible exact ⟨(X.out.c5 (b := w4.heap.size) (v0 := .int .i64 f0) (v1 := .slice Bx1 n1 kx1) (v2 := .slice Bx2 n2 kx2) (v3 := .slice Bx3 n3 kx3) (v4 := .slice Bx4 n4 kx4) (by repeat (first | exact List.mem_cons_self | refine List.mem_cons_of_mem _ ?_))), (X.out.c5 (b := W.heap.size) (v0 := .int .i64 f0) (v1 := .slice A1 n1 c1) (v2 := .slice A2 n2 c2) (v3 := .slice A3 n3 c3) (v4 := .slice A4 n4 c4) (by repeat (first | exact List.mem_cons_self | refine List.mem_cons_of_mem _ ?_)))⟩ | go_keep)
      (first
      | (go_at_call 30; (with_reducible refine (toVat f0 L1 A1 n1 c1 L2 A2 n2 c2 L3 A3 n3 c3 L4 A4 n4 c4 _ (X.out.lies (d := .l L1) (cs := [.slice A1 n1 c1]) (by repeat (first | exact List.mem_cons_self | refine List.mem_cons_of_mem _ ?_))) ht1 hq1 (X.out.lies (d := .l L2) (cs := [.slice A2 n2 c2]) (by repeat (first | exact List.mem_cons_self | refine List.mem_cons_of_mem _ ?_))) ht2 hq2 (X.out.lies (d := .l L3) (cs := [.slice A3 n3 c3]) (by repeat (first | exact List.mem_cons_self | refine List.mem_cons_of_mem _ ?_))) ht3 hq3 (X.out.lies (d := .l L4) (cs := [.slice A4 n4 c4]) (by repeat (first | exact List.mem_cons_self | refine List.mem_cons_of_mem _ ?_))) ht4 hq4).mono ?_); rintro e u5 ⟨Bu1, ku1, Bu2, ku2, Bu3, ku3, Bu4, ku4, a1, a2, a3, rfl, hO1, hO2, hO3, hO4, -, -, -, -, hb5⟩; replace X := Lib.hid (((((X.out.below hb5).lie hO1.lies).lie hO2.lies).lie hO3.lies).lie hO4.lies); clear hb5 hO1 hO2 hO3 hO4)
      | (go_at_call 23; (with_reducible refine (eqVat f0 L1 Bx1 n1 kx1 L2 Bx2 n2 kx2 L3 Bx3 n3 kx3 L4 Bx4 n4 kx4 Bu1 ku1 Bu2 ku2 Bu3 ku3 Bu4 ku4 _ (X.out.lies (d := .l L1) (cs := [.slice Bx1 n1 kx1]) (by repeat (first | exact List.mem_cons_self | refine List.mem_cons_of_mem _ ?_))) (X.out.lies (d := .l L1) (cs := [.slice Bu1 n1 ku1]) (by repeat (first | exact List.mem_cons_self | refine List.mem_cons_of_mem _ ?_))) ht1 hm1 (X.out.lies (d := .l L2) (cs := [.slice Bx2 n2 kx2]) (by repeat (first | exact List.mem_cons_self | refine List.mem_cons_of_mem _ ?_))) (X.out.lies (d := .l L2) (cs := [.slice Bu2 n2 ku2]) (by repeat (first | exact List.mem_cons_self | refine List.mem_cons_of_mem _ ?_))) ht2 hm2 (X.out.lies (d := .l L3) (cs := [.slice Bx3 n3 kx3]) (by repeat (first | exact List.mem_cons_self | refine List.mem_cons_of_mem _ ?_))) (X.out.lies (d := .l L3) (cs := [.slice Bu3 n3 ku3]) (by repeat (first | exact List.mem_cons_self | refine List.mem_cons_of_mem _ ?_))) ht3 hm3 (X.out.lies (d := .l L4) (cs := [.slice Bx4 n4 kx4]) (by repeat (first | exact List.mem_cons_self | refine List.mem_cons_of_mem _ ?_))) (X.out.lies (d := .l L4) (cs := [.slice Bu4 n4 ku4]) (by repeat (first | exact List.mem_cons_self | refine List.mem_cons_of_mem _ ?_))) ht4 hm4).mono ?_); rintro e u6 ⟨rfl, hb5⟩; replace X := Lib.hid (X.out.below hb5); clear hb5))
    all_goals (
      try clear p0 p1 p2 p3 p4 x0 x1 x2 x3 x4
      go_wp2_with fail
      go_ret
      exact GivesBool.ret X.out.low)
set_option maxRecDepth 100000 in
set_option maxHeartbeats 16000000 in
theorem law_IsUp (f0 : Int) (L1 : List Dat) (A1 : Option Addr) (n1 c1 : Nat) (L2 : List Dat) (A2 : Option Addr) (n2 c2 : Nat) (L3 : List Dat) (A3 : Option Addr) (n3 c3 : Nat) (L4 : List Dat) (A4 : Option Addr) (n4 c4 : Nat) (x : Int) (W : World) (hl1 : Lies W (.l L1) [.slice A1 n1 c1]) (ht1 : ∀ x ∈ L1, Has tyEntity x) (hm1 : n1 ≤ 9223372036854775807) (hl2 : Lies W (.l L2) [.slice A2 n2 c2]) (ht2 : ∀ x ∈ L2, Has tySent x) (hm2 : n2 ≤ 9223372036854775807) (hl3 : Lies W (.l L3) [.slice A3 n3 c3]) (ht3 : ∀ x ∈ L3, Has tyLink x) (hm3 : n3 ≤ 9223372036854775807) (hl4 : Lies W (.l L4) [.slice A4 n4 c4]) (ht4 : ∀ x ∈ L4, Has tyOutgoing x) (hm4 : n4 ≤ 9223372036854775807) :
    Calls Try.prog 6 #[.agg #[.int .i64 f0, .slice A1 n1 c1, .slice A2 n2 c2, .slice A3 n3 c3, .slice A4 n4 c4], .int .i64 x] W (GivesBool true W) := by
  have X := Lib.hid (((((St.start W).lie hl1).lie hl2).lie hl3).lie hl4)
  have hc1 := Lib.hid hl1.count
  have hc2 := Lib.hid hl2.count
  have hc3 := Lib.hid hl3.count
  have hc4 := Lib.hid hl4.count
  clear hl1 hl2 hl3 hl4
  replace X := Lib.hid (X.out.push #[.int .i64 f0, .slice A1 n1 c1, .slice A2 n2 c2, .slice A3 n3 c3, .slice A4 n4 c4] 60)
  obtain ⟨v, hv⟩ : ∃ v, L3.any (upIs x) = v := ⟨_, rfl⟩
  have HV := Lib.hid hv
  clear hv
  rcases leftD_cases (.r [.i f0, .l L1, .l L2, .l L3, .l L4] : Dat) 1048576 with hbig | ⟨r, hr, hr0, hr1, hb⟩
  case inl =>
    have HBIG := Lib.hid hbig
    clear hbig
    go_enter Try.func6, Try.ntmps6
    obtain ⟨x0, x1, x2, x3, x4⟩ := (X.out.1.box (g := W.heap.size) (cs := [.int .i64 f0, .slice A1 n1 c1, .slice A2 n2 c2, .slice A3 n3 c3, .slice A4 n4 c4]) (by repeat (first | exact List.mem_cons_self | refine List.mem_cons_of_mem _ ?_))).c5
    go_wp2_with fail
    refine (szVat f0 L1 A1 n1 c1 L2 A2 n2 c2 L3 A3 n3 c3 L4 A4 n4 c4 (1048576) _ (by omega) (by omega) (X.out.lies (d := .l L1) (cs := [.slice A1 n1 c1]) (by repeat (first | exact List.mem_cons_self | refine List.mem_cons_of_mem _ ?_))) ht1 hm1 (X.out.lies (d := .l L2) (cs := [.slice A2 n2 c2]) (by repeat (first | exact List.mem_cons_self | refine List.mem_cons_of_mem _ ?_))) ht2 hm2 (X.out.lies (d := .l L3) (cs := [.slice A3 n3 c3]) (by repeat (first | exact List.mem_cons_self | refine List.mem_cons_of_mem _ ?_))) ht3 hm3 (X.out.lies (d := .l L4) (cs := [.slice A4 n4 c4]) (by repeat (first | exact List.mem_cons_self | refine List.mem_cons_of_mem _ ?_))) ht4 hm4).mono ?_
    rintro e w1 ⟨rfl, hb⟩
    rw [HBIG.out]
    replace X := Lib.hid (X.out.below hb)
    clear hb
    clear x0 x1 x2 x3 x4
    go_wp2_with fail
    go_ret
    exact GivesBool.ret X.out.low
  case inr =>
    have HR := Lib.hid hr
    clear hr
    have hq1 : (Dat.l L1).bulk ≤ 1099511627776 := by simp only [Dat.bulk, bulkAll] at hb ⊢; omega
    have hn1 : n1 ≤ 1099511627776 := by have h1 := hc1.out; simp only [Dat.bulk, bulkAll] at hb; omega
    have hq2 : (Dat.l L2).bulk ≤ 1099511627776 := by simp only [Dat.bulk, bulkAll] at hb ⊢; omega
    have hn2 : n2 ≤ 1099511627776 := by have h1 := hc2.out; simp only [Dat.bulk, bulkAll] at hb; omega
    have hq3 : (Dat.l L3).bulk ≤ 1099511627776 := by simp only [Dat.bulk, bulkAll] at hb ⊢; omega
    have hn3 : n3 ≤ 1099511627776 := by have h1 := hc3.out; simp only [Dat.bulk, bulkAll] at hb; omega
    have hq4 : (Dat.l L4).bulk ≤ 1099511627776 := by simp only [Dat.bulk, bulkAll] at hb ⊢; omega
    have hn4 : n4 ≤ 1099511627776 := by have h1 := hc4.out; simp only [Dat.bulk, bulkAll] at hb; omega
    go_enter Try.func6, Try.ntmps6
    obtain ⟨x0, x1, x2, x3, x4⟩ := (X.out.1.box (g := W.heap.size) (cs := [.int .i64 f0, .slice A1 n1 c1, .slice A2 n2 c2, .slice A3 n3 c3, .slice A4 n4 c4]) (by repeat (first | exact List.mem_cons_self | refine List.mem_cons_of_mem _ ?_))).c5
    go_wp2_with fail
    refine (szVat f0 L1 A1 n1 c1 L2 A2 n2 c2 L3 A3 n3 c3 L4 A4 n4 c4 (1048576) _ (by omega) (by omega) (X.out.lies (d := .l L1) (cs := [.slice A1 n1 c1]) (by repeat (first | exact List.mem_cons_self | refine List.mem_cons_of_mem _ ?_))) ht1 hm1 (X.out.lies (d := .l L2) (cs := [.slice A2 n2 c2]) (by repeat (first | exact List.mem_cons_self | refine List.mem_cons_of_mem _ ?_))) ht2 hm2 (X.out.lies (d := .l L3) (cs := [.slice A3 n3 c3]) (by repeat (first | exact List.mem_cons_self | refine List.mem_cons_of_mem _ ?_))) ht3 hm3 (X.out.lies (d := .l L4) (cs := [.slice A4 n4 c4]) (by repeat (first | exact List.mem_cons_self | refine List.mem_cons_of_mem _ ?_))) ht4 hm4).mono ?_
    rintro e w1 ⟨rfl, hb⟩
    rw [HR.out]
    replace X := Lib.hid (X.out.below hb)
    clear hb
    clear x0 x1 x2 x3 x4
    obtain ⟨x0, x1, x2, x3, x4⟩ := (X.out.1.box (g := W.heap.size) (cs := [.int .i64 f0, .slice A1 n1 c1, .slice A2 n2 c2, .slice A3 n3 c3, .slice A4 n4 c4]) (by repeat (first | exact List.mem_cons_self | refine List.mem_cons_of_mem _ ?_))).c5
    go_wp2_with fail
    refine (toVat f0 L1 A1 n1 c1 L2 A2 n2 c2 L3 A3 n3 c3 L4 A4 n4 c4 _ (X.out.lies (d := .l L1) (cs := [.slice A1 n1 c1]) (by repeat (first | exact List.mem_cons_self | refine List.mem_cons_of_mem _ ?_))) ht1 hq1 (X.out.lies (d := .l L2) (cs := [.slice A2 n2 c2]) (by repeat (first | exact List.mem_cons_self | refine List.mem_cons_of_mem _ ?_))) ht2 hq2 (X.out.lies (d := .l L3) (cs := [.slice A3 n3 c3]) (by repeat (first | exact List.mem_cons_self | refine List.mem_cons_of_mem _ ?_))) ht3 hq3 (X.out.lies (d := .l L4) (cs := [.slice A4 n4 c4]) (by repeat (first | exact List.mem_cons_self | refine List.mem_cons_of_mem _ ?_))) ht4 hq4).mono ?_
    rintro e w2 ⟨Bt1, kt1, Bt2, kt2, Bt3, kt3, Bt4, kt4, a1, a2, a3, rfl, hO1, hO2, hO3, hO4, -, -, -, -, hb⟩
    replace X := Lib.hid (((((X.out.below hb).lie hO1.lies).lie hO2.lies).lie hO3.lies).lie hO4.lies)
    clear hb hO1 hO2 hO3 hO4
    clear x0 x1 x2 x3 x4
    go_wp2_with fail
    refine (specIsUp f0 L1 Bt1 n1 kt1 L2 Bt2 n2 kt2 L3 Bt3 n3 kt3 L4 Bt4 n4 kt4 x _ (X.out.lies (d := .l L3) (cs := [.slice Bt3 n3 kt3]) (by repeat (first | exact List.mem_cons_self | refine List.mem_cons_of_mem _ ?_))) ht3 hn3).mono ?_
    rintro e w3 ⟨rfl, hb⟩
    rw [HV.out]
    replace X := Lib.hid (X.out.below hb)
    clear hb
    obtain ⟨x0, x1, x2, x3, x4⟩ := (X.out.1.box (g := W.heap.size) (cs := [.int .i64 f0, .slice A1 n1 c1, .slice A2 n2 c2, .slice A3 n3 c3, .slice A4 n4 c4]) (by repeat (first | exact List.mem_cons_self | refine List.mem_cons_of_mem _ ?_))).c5
    go_wp2_with fail
    refine (toVat f0 L1 A1 n1 c1 L2 A2 n2 c2 L3 A3 n3 c3 L4 A4 n4 c4 _ (X.out.lies (d := .l L1) (cs := [.slice A1 n1 c1]) (by repeat (first | exact List.mem_cons_self | refine List.mem_cons_of_mem _ ?_))) ht1 hq1 (X.out.lies (d := .l L2) (cs := [.slice A2 n2 c2]) (by repeat (first | exact List.mem_cons_self | refine List.mem_cons_of_mem _ ?_))) ht2 hq2 (X.out.lies (d := .l L3) (cs := [.slice A3 n3 c3]) (by repeat (first | exact List.mem_cons_self | refine List.mem_cons_of_mem _ ?_))) ht3 hq3 (X.out.lies (d := .l L4) (cs := [.slice A4 n4 c4]) (by repeat (first | exact List.mem_cons_self | refine List.mem_cons_of_mem _ ?_))) ht4 hq4).mono ?_
    rintro e w4 ⟨Bx1, kx1, Bx2, kx2, Bx3, kx3, Bx4, kx4, a1, a2, a3, rfl, hO1, hO2, hO3, hO4, -, -, -, -, hb⟩
    replace X := Lib.hid (((((X.out.below hb).lie hO1.lies).lie hO2.lies).lie hO3.lies).lie hO4.lies)
    clear hb hO1 hO2 hO3 hO4
    clear x0 x1 x2 x3 x4
    replace X := Lib.hid (X.out.push #[.int .i64 f0, .slice Bx1 n1 kx1, .slice Bx2 n2 kx2, .slice Bx3 n3 kx3, .slice Bx4 n4 kx4] 29)
    obtain ⟨p0, p1, p2, p3, p4⟩ := (X.out.1.box (g := w4.heap.size) (cs := [.int .i64 f0, .slice Bx1 n1 kx1, .slice Bx2 n2 kx2, .slice Bx3 n3 kx3, .slice Bx4 n4 kx4]) (by repeat (first | exact List.mem_cons_self | refine List.mem_cons_of_mem _ ?_))).c5
    go_wp2_with fail
    refine (implIsUp f0 L1 Bx1 n1 kx1 L2 Bx2 n2 kx2 L3 Bx3 n3 kx3 L4 Bx4 n4 kx4 x _ (X.out.lies (d := .l L3) (cs := [.slice Bx3 n3 kx3]) (by repeat (first | exact List.mem_cons_self | refine List.mem_cons_of_mem _ ?_))) ht3 hn3).mono ?_
    rintro e w5 ⟨rfl, hb⟩
    rw [HV.out]
    replace X := Lib.hid (X.out.below hb)
    clear hb
    clear p0 p1 p2 p3 p4
    obtain ⟨p0, p1, p2, p3, p4⟩ := (X.out.1.box (g := w4.heap.size) (cs := [.int .i64 f0, .slice Bx1 n1 kx1, .slice Bx2 n2 kx2, .slice Bx3 n3 kx3, .slice Bx4 n4 kx4]) (by repeat (first | exact List.mem_cons_self | refine List.mem_cons_of_mem _ ?_))).c5
    obtain ⟨x0, x1, x2, x3, x4⟩ := (X.out.1.box (g := W.heap.size) (cs := [.int .i64 f0, .slice A1 n1 c1, .slice A2 n2 c2, .slice A3 n3 c3, .slice A4 n4 c4]) (by repeat (first | exact List.mem_cons_self | refine List.mem_cons_of_mem _ ?_))).c5
    go_wp2_with fail
    replace X := Lib.hid X.out.drew
    go_region_held3 (fun w' => (w'.cell? ⟨w4.heap.size, 0, none⟩ = some (.int .i64 f0) ∧ w'.cell? ⟨w4.heap.size, 1, none⟩ = some (.slice Bx1 n1 kx1) ∧ w'.cell? ⟨w4.heap.size, 2, none⟩ = some (.slice Bx2 n2 kx2) ∧ w'.cell? ⟨w4.heap.size, 3, none⟩ = some (.slice Bx3 n3 kx3) ∧ w'.cell? ⟨w4.heap.size, 4, none⟩ = some (.slice Bx4 n4 kx4)) ∧ (w'.cell? ⟨W.heap.size, 0, none⟩ = some (.int .i64 f0) ∧ w'.cell? ⟨W.heap.size, 1, none⟩ = some (.slice A1 n1 c1) ∧ w'.cell? ⟨W.heap.size, 2, none⟩ = some (.slice A2 n2 c2) ∧ w'.cell? ⟨W.heap.size, 3, none⟩ = some (.slice A3 n3 c3) ∧ w'.cell? ⟨W.heap.size, 4, none⟩ = some (.slice A4 n4 c4)))
      (first | with_reducible exact ⟨(X.out.c5 (b := w4.heap.size) (v0 := .int .i64 f0) (v1 := .slice Bx1 n1 kx1) (v2 := .slice Bx2 n2 kx2) (v3 := .slice Bx3 n3 kx3) (v4 := .slice Bx4 n4 kx4) (by repeat (first | exact List.mem_cons_self | refine List.mem_cons_of_mem _ ?_))), (X.out.c5 (b := W.heap.size) (v0 := .int .i64 f0) (v1 := .slice A1 n1 c1) (v2 := .slice A2 n2 c2) (v3 := .slice A3 n3 c3) (v4 := .slice A4 n4 c4) (by repeat (first | exact List.mem_cons_self | refine List.mem_cons_of_mem _ ?_)))⟩ | go_keep)
      (first
      | (go_at_call 30; (with_reducible refine (toVat f0 L1 A1 n1 c1 L2 A2 n2 c2 L3 A3 n3 c3 L4 A4 n4 c4 _ (X.out.lies (d := .l L1) (cs := [.slice A1 n1 c1]) (by repeat (first | exact List.mem_cons_self | refine List.mem_cons_of_mem _ ?_))) ht1 hq1 (X.out.lies (d := .l L2) (cs := [.slice A2 n2 c2]) (by repeat (first | exact List.mem_cons_self | refine List.mem_cons_of_mem _ ?_))) ht2 hq2 (X.out.lies (d := .l L3) (cs := [.slice A3 n3 c3]) (by repeat (first | exact List.mem_cons_self | refine List.mem_cons_of_mem _ ?_))) ht3 hq3 (X.out.lies (d := .l L4) (cs := [.slice A4 n4 c4]) (by repeat (first | exact List.mem_cons_self | refine List.mem_cons_of_mem _ ?_))) ht4 hq4).mono ?_); rintro e u5 ⟨Bu1, ku1, Bu2, ku2, Bu3, ku3, Bu4, ku4, a1, a2, a3, rfl, hO1, hO2, hO3, hO4, -, -, -, -, hb5⟩; replace X := Lib.hid (((((X.out.below hb5).lie hO1.lies).lie hO2.lies).lie hO3.lies).lie hO4.lies); clear hb5 hO1 hO2 hO3 hO4)
      | (go_at_call 23; (with_reducible refine (eqVat f0 L1 Bx1 n1 kx1 L2 Bx2 n2 kx2 L3 Bx3 n3 kx3 L4 Bx4 n4 kx4 Bu1 ku1 Bu2 ku2 Bu3 ku3 Bu4 ku4 _ (X.out.lies (d := .l L1) (cs := [.slice Bx1 n1 kx1]) (by repeat (first | exact List.mem_cons_self | refine List.mem_cons_of_mem _ ?_))) (X.out.lies (d := .l L1) (cs := [.slice Bu1 n1 ku1]) (by repeat (first | exact List.mem_cons_self | refine List.mem_cons_of_mem _ ?_))) ht1 hm1 (X.out.lies (d := .l L2) (cs := [.slice Bx2 n2 kx2]) (by repeat (first | exact List.mem_cons_self | refine List.mem_cons_of_mem _ ?_))) (X.out.lies (d := .l L2) (cs := [.slice Bu2 n2 ku2]) (by repeat (first | exact List.mem_cons_self | refine List.mem_cons_of_mem _ ?_))) ht2 hm2 (X.out.lies (d := .l L3) (cs := [.slice Bx3 n3 kx3]) (by repeat (first | exact List.mem_cons_self | refine List.mem_cons_of_mem _ ?_))) (X.out.lies (d := .l L3) (cs := [.slice Bu3 n3 ku3]) (by repeat (first | exact List.mem_cons_self | refine List.mem_cons_of_mem _ ?_))) ht3 hm3 (X.out.lies (d := .l L4) (cs := [.slice Bx4 n4 kx4]) (by repeat (first | exact List.mem_cons_self | refine List.mem_cons_of_mem _ ?_))) (X.out.lies (d := .l L4) (cs := [.slice Bu4 n4 ku4]) (by repeat (first | exact List.mem_cons_self | refine List.mem_cons_of_mem _ ?_))) ht4 hm4).mono ?_); rintro e u6 ⟨rfl, hb5⟩; replace X := Lib.hid (X.out.below hb5); clear hb5))
    all_goals (
      try clear p0 p1 p2 p3 p4 x0 x1 x2 x3 x4
      go_wp2_with fail
      go_ret
      exact GivesBool.ret X.out.low)
end Go.Proofs.Ytmeacgpebpfpbaa
