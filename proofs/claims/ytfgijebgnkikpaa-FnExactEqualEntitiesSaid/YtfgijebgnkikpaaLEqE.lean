/- Exact laws of chapter 9: EqualEntities. -/
import Derived.Test.YtfgijebgnkikpaaLawE0
import Derived.Test.YtfgijebgnkikpaaEqE9
import Derived.Test.YtfgijebgnkikpaaEqER
import Derived.Test.YtfgijebgnkikpaaTyE2
import Derived.Test.YtfgijebgnkikpaaTyE4
import Derived.Test.YtfgijebgnkikpaaTyE5
import Derived.Deep.RegionHeld3
import Derived.LoopTactic
import Derived.Lib.Hide
import Derived.Deep.QuietTactic
import Derived.BigQuiet
import Derived.Deep.RegionWith
import Derived.Handy
namespace Go.Proofs.Ytfgijebgnkikpaa
open Go.RowKit
set_option linter.unusedVariables false
set_option linter.unusedSimpArgs false
set_option maxRecDepth 100000 in
set_option maxHeartbeats 16000000 in
theorem law_EqualEntities (f0 : Int) (f1 : Int) (L2 : List Dat) (A2 : Option Addr) (n2 c2 : Nat) (f3 : Int) (f4_0 : Int) (f4_1 : Int) (L5 : List Dat) (A5 : Option Addr) (n5 c5 : Nat) (L6 : List Dat) (A6 : Option Addr) (n6 c6 : Nat) (f7 : Int) (f8 : Int) (f9 : Int) (f10 : Int) (g0 : Int) (g1 : Int) (M2 : List Dat) (D2 : Option Addr) (m2 d2 : Nat) (g3 : Int) (g4_0 : Int) (g4_1 : Int) (M5 : List Dat) (D5 : Option Addr) (m5 d5 : Nat) (M6 : List Dat) (D6 : Option Addr) (m6 d6 : Nat) (g7 : Int) (g8 : Int) (g9 : Int) (g10 : Int) (W : World) (hl2 : Lies W (.l L2) [.slice A2 n2 c2]) (ht2 : ∀ x ∈ L2, Has tyValue x) (hm2 : n2 ≤ 9223372036854775807) (hl5 : Lies W (.l L5) [.slice A5 n5 c5]) (ht5 : ∀ x ∈ L5, Has tySent x) (hm5 : n5 ≤ 9223372036854775807) (hl6 : Lies W (.l L6) [.slice A6 n6 c6]) (ht6 : ∀ x ∈ L6, Has tyAsker x) (hm6 : n6 ≤ 9223372036854775807) (hlr2 : Lies W (.l M2) [.slice D2 m2 d2]) (htr2 : ∀ x ∈ M2, Has tyValue x) (hmr2 : m2 ≤ 9223372036854775807) (hlr5 : Lies W (.l M5) [.slice D5 m5 d5]) (htr5 : ∀ x ∈ M5, Has tySent x) (hmr5 : m5 ≤ 9223372036854775807) (hlr6 : Lies W (.l M6) [.slice D6 m6 d6]) (htr6 : ∀ x ∈ M6, Has tyAsker x) (hmr6 : m6 ≤ 9223372036854775807) :
    Calls Try.prog 10 #[.agg #[.int .i64 f0, .int .i64 f1, .slice A2 n2 c2, .int .i64 f3, .int .i64 f4_0, .int .i64 f4_1, .slice A5 n5 c5, .slice A6 n6 c6, .int .i64 f7, .int .i64 f8, .int .i64 f9, .int .i64 f10], .agg #[.int .i64 g0, .int .i64 g1, .slice D2 m2 d2, .int .i64 g3, .int .i64 g4_0, .int .i64 g4_1, .slice D5 m5 d5, .slice D6 m6 d6, .int .i64 g7, .int .i64 g8, .int .i64 g9, .int .i64 g10]] W (GivesBool true W) := by
  have X := Lib.hid (((((((St.start W).lie hl2).lie hl5).lie hl6).lie hlr2).lie hlr5).lie hlr6)
  have hc2 := Lib.hid hl2.count
  have hc5 := Lib.hid hl5.count
  have hc6 := Lib.hid hl6.count
  have hcr2 := Lib.hid hlr2.count
  have hcr5 := Lib.hid hlr5.count
  have hcr6 := Lib.hid hlr6.count
  clear hl2 hl5 hl6 hlr2 hlr5 hlr6
  replace X := Lib.hid (X.out.push #[.int .i64 f0, .int .i64 f1, .slice A2 n2 c2, .int .i64 f3, .int .i64 f4_0, .int .i64 f4_1, .slice A5 n5 c5, .slice A6 n6 c6, .int .i64 f7, .int .i64 f8, .int .i64 f9, .int .i64 f10] 58)
  replace X := Lib.hid (X.out.push #[.int .i64 g0, .int .i64 g1, .slice D2 m2 d2, .int .i64 g3, .int .i64 g4_0, .int .i64 g4_1, .slice D5 m5 d5, .slice D6 m6 d6, .int .i64 g7, .int .i64 g8, .int .i64 g9, .int .i64 g10] 58)
  simp only [World.size_alloc] at X
  obtain ⟨v, hv⟩ : ∃ v, eq1 (.r [.i f0, .i f1, .l L2, .i f3, .r [.i f4_0, .i f4_1], .l L5, .l L6, .i f7, .i f8, .i f9, .i f10]) (.r [.i g0, .i g1, .l M2, .i g3, .r [.i g4_0, .i g4_1], .l M5, .l M6, .i g7, .i g8, .i g9, .i g10]) = v := ⟨_, rfl⟩
  have HV := Lib.hid hv
  clear hv
  rcases leftD_cases (.r [.i f0, .i f1, .l L2, .i f3, .r [.i f4_0, .i f4_1], .l L5, .l L6, .i f7, .i f8, .i f9, .i f10] : Dat) 1048576 with hbig | ⟨r, hr, hr0, hr1, hb⟩
  case inl =>
    have HBIG := Lib.hid hbig
    clear hbig
    go_enter Try.func10, Try.ntmps10
    obtain ⟨x0, x1, x2, x3, x4, x5, x6, x7, x8, x9, x10, x11⟩ := (X.out.1.box (g := W.heap.size) (cs := [.int .i64 f0, .int .i64 f1, .slice A2 n2 c2, .int .i64 f3, .int .i64 f4_0, .int .i64 f4_1, .slice A5 n5 c5, .slice A6 n6 c6, .int .i64 f7, .int .i64 f8, .int .i64 f9, .int .i64 f10]) (by repeat (first | exact List.mem_cons_self | refine List.mem_cons_of_mem _ ?_))).c12
    go_wp2_with fail
    refine (szEntity f0 f1 L2 A2 n2 c2 f3 f4_0 f4_1 L5 A5 n5 c5 L6 A6 n6 c6 f7 f8 f9 f10 (1048576) _ (by omega) (by omega) (X.out.lies (d := .l L2) (cs := [.slice A2 n2 c2]) (by repeat (first | exact List.mem_cons_self | refine List.mem_cons_of_mem _ ?_))) ht2 hm2 (X.out.lies (d := .l L5) (cs := [.slice A5 n5 c5]) (by repeat (first | exact List.mem_cons_self | refine List.mem_cons_of_mem _ ?_))) ht5 hm5 (X.out.lies (d := .l L6) (cs := [.slice A6 n6 c6]) (by repeat (first | exact List.mem_cons_self | refine List.mem_cons_of_mem _ ?_))) ht6 hm6).mono ?_
    rintro e w1 ⟨rfl, hb⟩
    rw [HBIG.out]
    replace X := Lib.hid (X.out.below hb)
    clear hb
    clear x0 x1 x2 x3 x4 x5 x6 x7 x8 x9 x10 x11
    go_wp2_with fail
    go_ret
    exact GivesBool.ret X.out.low
  case inr =>
    have HR := Lib.hid hr
    clear hr
    have hq2 : (Dat.l L2).bulk ≤ 1099511627776 := by simp only [Dat.bulk, bulkAll] at hb ⊢; omega
    have hn2 : n2 ≤ 1099511627776 := by have h1 := hc2.out; simp only [Dat.bulk, bulkAll] at hb; omega
    have hq5 : (Dat.l L5).bulk ≤ 1099511627776 := by simp only [Dat.bulk, bulkAll] at hb ⊢; omega
    have hn5 : n5 ≤ 1099511627776 := by have h1 := hc5.out; simp only [Dat.bulk, bulkAll] at hb; omega
    have hq6 : (Dat.l L6).bulk ≤ 1099511627776 := by simp only [Dat.bulk, bulkAll] at hb ⊢; omega
    have hn6 : n6 ≤ 1099511627776 := by have h1 := hc6.out; simp only [Dat.bulk, bulkAll] at hb; omega
    rcases leftD_cases (.r [.i g0, .i g1, .l M2, .i g3, .r [.i g4_0, .i g4_1], .l M5, .l M6, .i g7, .i g8, .i g9, .i g10] : Dat) r with hbig | ⟨rr, hrr, hr0r, hr1r, hbr⟩
    case inl =>
      have HBIG := Lib.hid hbig
      clear hbig
      go_enter Try.func10, Try.ntmps10
      obtain ⟨x0, x1, x2, x3, x4, x5, x6, x7, x8, x9, x10, x11⟩ := (X.out.1.box (g := W.heap.size) (cs := [.int .i64 f0, .int .i64 f1, .slice A2 n2 c2, .int .i64 f3, .int .i64 f4_0, .int .i64 f4_1, .slice A5 n5 c5, .slice A6 n6 c6, .int .i64 f7, .int .i64 f8, .int .i64 f9, .int .i64 f10]) (by repeat (first | exact List.mem_cons_self | refine List.mem_cons_of_mem _ ?_))).c12
      go_wp2_with fail
      refine (szEntity f0 f1 L2 A2 n2 c2 f3 f4_0 f4_1 L5 A5 n5 c5 L6 A6 n6 c6 f7 f8 f9 f10 (1048576) _ (by omega) (by omega) (X.out.lies (d := .l L2) (cs := [.slice A2 n2 c2]) (by repeat (first | exact List.mem_cons_self | refine List.mem_cons_of_mem _ ?_))) ht2 hm2 (X.out.lies (d := .l L5) (cs := [.slice A5 n5 c5]) (by repeat (first | exact List.mem_cons_self | refine List.mem_cons_of_mem _ ?_))) ht5 hm5 (X.out.lies (d := .l L6) (cs := [.slice A6 n6 c6]) (by repeat (first | exact List.mem_cons_self | refine List.mem_cons_of_mem _ ?_))) ht6 hm6).mono ?_
      rintro e w1 ⟨rfl, hb⟩
      rw [HR.out]
      replace X := Lib.hid (X.out.below hb)
      clear hb
      clear x0 x1 x2 x3 x4 x5 x6 x7 x8 x9 x10 x11
      obtain ⟨x0, x1, x2, x3, x4, x5, x6, x7, x8, x9, x10, x11⟩ := (X.out.1.box (g := W.heap.size + 1) (cs := [.int .i64 g0, .int .i64 g1, .slice D2 m2 d2, .int .i64 g3, .int .i64 g4_0, .int .i64 g4_1, .slice D5 m5 d5, .slice D6 m6 d6, .int .i64 g7, .int .i64 g8, .int .i64 g9, .int .i64 g10]) (by repeat (first | exact List.mem_cons_self | refine List.mem_cons_of_mem _ ?_))).c12
      go_wp2_with fail
      refine (szEntity g0 g1 M2 D2 m2 d2 g3 g4_0 g4_1 M5 D5 m5 d5 M6 D6 m6 d6 g7 g8 g9 g10 (r) _ (by omega) (by omega) (X.out.lies (d := .l M2) (cs := [.slice D2 m2 d2]) (by repeat (first | exact List.mem_cons_self | refine List.mem_cons_of_mem _ ?_))) htr2 hmr2 (X.out.lies (d := .l M5) (cs := [.slice D5 m5 d5]) (by repeat (first | exact List.mem_cons_self | refine List.mem_cons_of_mem _ ?_))) htr5 hmr5 (X.out.lies (d := .l M6) (cs := [.slice D6 m6 d6]) (by repeat (first | exact List.mem_cons_self | refine List.mem_cons_of_mem _ ?_))) htr6 hmr6).mono ?_
      rintro e w2 ⟨rfl, hb⟩
      rw [HBIG.out]
      replace X := Lib.hid (X.out.below hb)
      clear hb
      clear x0 x1 x2 x3 x4 x5 x6 x7 x8 x9 x10 x11
      go_wp2_with fail
      go_ret
      exact GivesBool.ret X.out.low
    case inr =>
      have HRr := Lib.hid hrr
      clear hrr
      have hqr2 : (Dat.l M2).bulk ≤ 1099511627776 := by simp only [Dat.bulk, bulkAll] at hbr ⊢; omega
      have hnr2 : m2 ≤ 1099511627776 := by have h1 := hcr2.out; simp only [Dat.bulk, bulkAll] at hbr; omega
      have hqr5 : (Dat.l M5).bulk ≤ 1099511627776 := by simp only [Dat.bulk, bulkAll] at hbr ⊢; omega
      have hnr5 : m5 ≤ 1099511627776 := by have h1 := hcr5.out; simp only [Dat.bulk, bulkAll] at hbr; omega
      have hqr6 : (Dat.l M6).bulk ≤ 1099511627776 := by simp only [Dat.bulk, bulkAll] at hbr ⊢; omega
      have hnr6 : m6 ≤ 1099511627776 := by have h1 := hcr6.out; simp only [Dat.bulk, bulkAll] at hbr; omega
      go_enter Try.func10, Try.ntmps10
      obtain ⟨x0, x1, x2, x3, x4, x5, x6, x7, x8, x9, x10, x11⟩ := (X.out.1.box (g := W.heap.size) (cs := [.int .i64 f0, .int .i64 f1, .slice A2 n2 c2, .int .i64 f3, .int .i64 f4_0, .int .i64 f4_1, .slice A5 n5 c5, .slice A6 n6 c6, .int .i64 f7, .int .i64 f8, .int .i64 f9, .int .i64 f10]) (by repeat (first | exact List.mem_cons_self | refine List.mem_cons_of_mem _ ?_))).c12
      go_wp2_with fail
      refine (szEntity f0 f1 L2 A2 n2 c2 f3 f4_0 f4_1 L5 A5 n5 c5 L6 A6 n6 c6 f7 f8 f9 f10 (1048576) _ (by omega) (by omega) (X.out.lies (d := .l L2) (cs := [.slice A2 n2 c2]) (by repeat (first | exact List.mem_cons_self | refine List.mem_cons_of_mem _ ?_))) ht2 hm2 (X.out.lies (d := .l L5) (cs := [.slice A5 n5 c5]) (by repeat (first | exact List.mem_cons_self | refine List.mem_cons_of_mem _ ?_))) ht5 hm5 (X.out.lies (d := .l L6) (cs := [.slice A6 n6 c6]) (by repeat (first | exact List.mem_cons_self | refine List.mem_cons_of_mem _ ?_))) ht6 hm6).mono ?_
      rintro e w1 ⟨rfl, hb⟩
      rw [HR.out]
      replace X := Lib.hid (X.out.below hb)
      clear hb
      clear x0 x1 x2 x3 x4 x5 x6 x7 x8 x9 x10 x11
      obtain ⟨x0, x1, x2, x3, x4, x5, x6, x7, x8, x9, x10, x11⟩ := (X.out.1.box (g := W.heap.size + 1) (cs := [.int .i64 g0, .int .i64 g1, .slice D2 m2 d2, .int .i64 g3, .int .i64 g4_0, .int .i64 g4_1, .slice D5 m5 d5, .slice D6 m6 d6, .int .i64 g7, .int .i64 g8, .int .i64 g9, .int .i64 g10]) (by repeat (first | exact List.mem_cons_self | refine List.mem_cons_of_mem _ ?_))).c12
      go_wp2_with fail
      refine (szEntity g0 g1 M2 D2 m2 d2 g3 g4_0 g4_1 M5 D5 m5 d5 M6 D6 m6 d6 g7 g8 g9 g10 (r) _ (by omega) (by omega) (X.out.lies (d := .l M2) (cs := [.slice D2 m2 d2]) (by repeat (first | exact List.mem_cons_self | refine List.mem_cons_of_mem _ ?_))) htr2 hmr2 (X.out.lies (d := .l M5) (cs := [.slice D5 m5 d5]) (by repeat (first | exact List.mem_cons_self | refine List.mem_cons_of_mem _ ?_))) htr5 hmr5 (X.out.lies (d := .l M6) (cs := [.slice D6 m6 d6]) (by repeat (first | exact List.mem_cons_self | refine List.mem_cons_of_mem _ ?_))) htr6 hmr6).mono ?_
      rintro e w2 ⟨rfl, hb⟩
      rw [HRr.out]
      replace X := Lib.hid (X.out.below hb)
      clear hb
      clear x0 x1 x2 x3 x4 x5 x6 x7 x8 x9 x10 x11
      obtain ⟨p0, p1, p2, p3, p4, p5, p6, p7, p8, p9, p10, p11⟩ := (X.out.1.box (g := W.heap.size) (cs := [.int .i64 f0, .int .i64 f1, .slice A2 n2 c2, .int .i64 f3, .int .i64 f4_0, .int .i64 f4_1, .slice A5 n5 c5, .slice A6 n6 c6, .int .i64 f7, .int .i64 f8, .int .i64 f9, .int .i64 f10]) (by repeat (first | exact List.mem_cons_self | refine List.mem_cons_of_mem _ ?_))).c12
      obtain ⟨x0, x1, x2, x3, x4, x5, x6, x7, x8, x9, x10, x11⟩ := (X.out.1.box (g := W.heap.size + 1) (cs := [.int .i64 g0, .int .i64 g1, .slice D2 m2 d2, .int .i64 g3, .int .i64 g4_0, .int .i64 g4_1, .slice D5 m5 d5, .slice D6 m6 d6, .int .i64 g7, .int .i64 g8, .int .i64 g9, .int .i64 g10]) (by repeat (first | exact List.mem_cons_self | refine List.mem_cons_of_mem _ ?_))).c12
      go_wp2_with fail
      replace X := Lib.hid X.out.drew
      go_region_held3 (fun w' => (w'.cell? ⟨W.heap.size, 0, none⟩ = some (.int .i64 f0) ∧ w'.cell? ⟨W.heap.size, 1, none⟩ = some (.int .i64 f1) ∧ w'.cell? ⟨W.heap.size, 2, none⟩ = some (.slice A2 n2 c2) ∧ w'.cell? ⟨W.heap.size, 3, none⟩ = some (.int .i64 f3) ∧ w'.cell? ⟨W.heap.size, 4, none⟩ = some (.int .i64 f4_0) ∧ w'.cell? ⟨W.heap.size, 5, none⟩ = some (.int .i64 f4_1) ∧ w'.cell? ⟨W.heap.size, 6, none⟩ = some (.slice A5 n5 c5) ∧ w'.cell? ⟨W.heap.size, 7, none⟩ = some (.slice A6 n6 c6) ∧ w'.cell? ⟨W.heap.size, 8, none⟩ = some (.int .i64 f7) ∧ w'.cell? ⟨W.heap.size, 9, none⟩ = some (.int .i64 f8) ∧ w'.cell? ⟨W.heap.size, 10, none⟩ = some (.int .i64 f9) ∧ w'.cell? ⟨W.heap.size, 11, none⟩ = some (.int .i64 f10)) ∧ (w'.cell? ⟨W.heap.size + 1, 0, none⟩ = some (.int .i64 g0) ∧ w'.cell? ⟨W.heap.size + 1, 1, none⟩ = some (.int .i64 g1) ∧ w'.cell? ⟨W.heap.size + 1, 2, none⟩ = some (.slice D2 m2 d2) ∧ w'.cell? ⟨W.heap.size + 1, 3, none⟩ = some (.int .i64 g3) ∧ w'.cell? ⟨W.heap.size + 1, 4, none⟩ = some (.int .i64 g4_0) ∧ w'.cell? ⟨W.heap.size + 1, 5, none⟩ = some (.int .i64 g4_1) ∧ w'.cell? ⟨W.heap.size + 1, 6, none⟩ = some (.slice D5 m5 d5) ∧ w'.cell? ⟨W.heap.size + 1, 7, none⟩ = some (.slice D6 m6 d6) ∧ w'.cell? ⟨W.heap.size + 1, 8, none⟩ = some (.int .i64 g7) ∧ w'.cell? ⟨W.heap.size + 1, 9, none⟩ = some (.int .i64 g8) ∧ w'.cell? ⟨W.heap.size + 1, 10, none⟩ = some (.int .i64 g9) ∧ w'.cell? ⟨W.heap.size + 1, 11, none⟩ = some (.int .i64 g10)))
        (first | with_reducible exact ⟨(X.out.c12 (b := W.heap.size) (v0 := .int .i64 f0) (v1 := .int .i64 f1) (v2 := .slice A2 n2 c2) (v3 := .int .i64 f3) (v4 := .int .i64 f4_0) (v5 := .int .i64 f4_1) (v6 := .slice A5 n5 c5) (v7 := .slice A6 n6 c6) (v8 := .int .i64 f7) (v9 := .int .i64 f8) (v10 := .int .i64 f9) (v11 := .int .i64 f10) (by repeat (first | exact List.mem_cons_self | refine List.mem_cons_of_mem _ ?_))), (X.out.c12 (b := W.heap.size + 1) (v0 := .int .i64 g0) (v1 := .int .i64 g1) (v2 := .slice D2 m2 d2) (v3 := .int .i64 g3) (v4 := .int .i64 g4_0) (v5 := .int .i64 g4_1) (v6 := .slice D5 m5 d5) (v7 := .slice D6 m6 d6) (v8 := .int .i64 g7) (v9 := .int .i64 g8) (v10 := .int .i64 g9) (v11 := .int .i64 g10) (by repeat (first | exact List.mem_cons_self | refine List.mem_cons_of_mem _ ?_)))⟩ | go_keep)
        (first
        | (go_at_call 37; (with_reducible refine (toEntity f0 f1 L2 A2 n2 c2 f3 f4_0 f4_1 L5 A5 n5 c5 L6 A6 n6 c6 f7 f8 f9 f10 _ (X.out.lies (d := .l L2) (cs := [.slice A2 n2 c2]) (by repeat (first | exact List.mem_cons_self | refine List.mem_cons_of_mem _ ?_))) ht2 hq2 (X.out.lies (d := .l L5) (cs := [.slice A5 n5 c5]) (by repeat (first | exact List.mem_cons_self | refine List.mem_cons_of_mem _ ?_))) ht5 hq5 (X.out.lies (d := .l L6) (cs := [.slice A6 n6 c6]) (by repeat (first | exact List.mem_cons_self | refine List.mem_cons_of_mem _ ?_))) ht6 hq6).mono ?_); rintro e u5 ⟨Bt2, kt2, Bt5, kt5, Bt6, kt6, a1, a2, rfl, hO2, hO5, hO6, -, -, -, hb5⟩; replace X := Lib.hid ((((X.out.below hb5).lie hO2.lies).lie hO5.lies).lie hO6.lies); clear hb5 hO2 hO5 hO6)
        | (go_at_call 37; (with_reducible refine (toEntity g0 g1 M2 D2 m2 d2 g3 g4_0 g4_1 M5 D5 m5 d5 M6 D6 m6 d6 g7 g8 g9 g10 _ (X.out.lies (d := .l M2) (cs := [.slice D2 m2 d2]) (by repeat (first | exact List.mem_cons_self | refine List.mem_cons_of_mem _ ?_))) htr2 hqr2 (X.out.lies (d := .l M5) (cs := [.slice D5 m5 d5]) (by repeat (first | exact List.mem_cons_self | refine List.mem_cons_of_mem _ ?_))) htr5 hqr5 (X.out.lies (d := .l M6) (cs := [.slice D6 m6 d6]) (by repeat (first | exact List.mem_cons_self | refine List.mem_cons_of_mem _ ?_))) htr6 hqr6).mono ?_); rintro e u6 ⟨Bs2, ks2, Bs5, ks5, Bs6, ks6, a1, a2, rfl, hO2, hO5, hO6, -, -, -, hb5⟩; replace X := Lib.hid ((((X.out.below hb5).lie hO2.lies).lie hO5.lies).lie hO6.lies); clear hb5 hO2 hO5 hO6)
        | (go_at_call 40; (with_reducible refine (specEqEnt f0 f1 L2 Bt2 n2 kt2 f3 f4_0 f4_1 L5 Bt5 n5 kt5 L6 Bt6 n6 kt6 f7 f8 f9 f10 g0 g1 M2 Bs2 m2 ks2 g3 g4_0 g4_1 M5 Bs5 m5 ks5 M6 Bs6 m6 ks6 g7 g8 g9 g10 _ (X.out.lies (d := .l L2) (cs := [.slice Bt2 n2 kt2]) (by repeat (first | exact List.mem_cons_self | refine List.mem_cons_of_mem _ ?_))) (X.out.lies (d := .l M2) (cs := [.slice Bs2 m2 ks2]) (by repeat (first | exact List.mem_cons_self | refine List.mem_cons_of_mem _ ?_))) ht2 htr2 hn2 (X.out.lies (d := .l L5) (cs := [.slice Bt5 n5 kt5]) (by repeat (first | exact List.mem_cons_self | refine List.mem_cons_of_mem _ ?_))) (X.out.lies (d := .l M5) (cs := [.slice Bs5 m5 ks5]) (by repeat (first | exact List.mem_cons_self | refine List.mem_cons_of_mem _ ?_))) ht5 htr5 hq5 hmr5 (X.out.lies (d := .l L6) (cs := [.slice Bt6 n6 kt6]) (by repeat (first | exact List.mem_cons_self | refine List.mem_cons_of_mem _ ?_))) (X.out.lies (d := .l M6) (cs := [.slice Bs6 m6 ks6]) (by repeat (first | exact List.mem_cons_self | refine List.mem_cons_of_mem _ ?_))) ht6 htr6 hn6 hmr6).mono ?_); rintro e u7 ⟨rfl, hb5⟩; rw [HV.out]; replace X := Lib.hid (X.out.below hb5); clear hb5))
      all_goals (
        try clear p0 p1 p2 p3 p4 p5 p6 p7 p8 p9 p10 p11 x0 x1 x2 x3 x4 x5 x6 x7 x8 x9 x10 x11
        obtain ⟨x0, x1, x2, x3, x4, x5, x6, x7, x8, x9, x10, x11⟩ := (X.out.1.box (g := W.heap.size) (cs := [.int .i64 f0, .int .i64 f1, .slice A2 n2 c2, .int .i64 f3, .int .i64 f4_0, .int .i64 f4_1, .slice A5 n5 c5, .slice A6 n6 c6, .int .i64 f7, .int .i64 f8, .int .i64 f9, .int .i64 f10]) (by repeat (first | exact List.mem_cons_self | refine List.mem_cons_of_mem _ ?_))).c12
        go_wp2_with fail
        refine (toEntity f0 f1 L2 A2 n2 c2 f3 f4_0 f4_1 L5 A5 n5 c5 L6 A6 n6 c6 f7 f8 f9 f10 _ (X.out.lies (d := .l L2) (cs := [.slice A2 n2 c2]) (by repeat (first | exact List.mem_cons_self | refine List.mem_cons_of_mem _ ?_))) ht2 hq2 (X.out.lies (d := .l L5) (cs := [.slice A5 n5 c5]) (by repeat (first | exact List.mem_cons_self | refine List.mem_cons_of_mem _ ?_))) ht5 hq5 (X.out.lies (d := .l L6) (cs := [.slice A6 n6 c6]) (by repeat (first | exact List.mem_cons_self | refine List.mem_cons_of_mem _ ?_))) ht6 hq6).mono ?_
        rintro e w3 ⟨Bx2, kx2, Bx5, kx5, Bx6, kx6, a1, a2, rfl, hO2, hO5, hO6, -, -, -, hb⟩
        replace X := Lib.hid ((((X.out.below hb).lie hO2.lies).lie hO5.lies).lie hO6.lies)
        clear hb hO2 hO5 hO6
        clear x0 x1 x2 x3 x4 x5 x6 x7 x8 x9 x10 x11
        replace X := Lib.hid (X.out.push #[.int .i64 f0, .int .i64 f1, .slice Bx2 n2 kx2, .int .i64 f3, .int .i64 f4_0, .int .i64 f4_1, .slice Bx5 n5 kx5, .slice Bx6 n6 kx6, .int .i64 f7, .int .i64 f8, .int .i64 f9, .int .i64 f10] 30)
        obtain ⟨x0, x1, x2, x3, x4, x5, x6, x7, x8, x9, x10, x11⟩ := (X.out.1.box (g := W.heap.size + 1) (cs := [.int .i64 g0, .int .i64 g1, .slice D2 m2 d2, .int .i64 g3, .int .i64 g4_0, .int .i64 g4_1, .slice D5 m5 d5, .slice D6 m6 d6, .int .i64 g7, .int .i64 g8, .int .i64 g9, .int .i64 g10]) (by repeat (first | exact List.mem_cons_self | refine List.mem_cons_of_mem _ ?_))).c12
        go_wp2_with fail
        refine (toEntity g0 g1 M2 D2 m2 d2 g3 g4_0 g4_1 M5 D5 m5 d5 M6 D6 m6 d6 g7 g8 g9 g10 _ (X.out.lies (d := .l M2) (cs := [.slice D2 m2 d2]) (by repeat (first | exact List.mem_cons_self | refine List.mem_cons_of_mem _ ?_))) htr2 hqr2 (X.out.lies (d := .l M5) (cs := [.slice D5 m5 d5]) (by repeat (first | exact List.mem_cons_self | refine List.mem_cons_of_mem _ ?_))) htr5 hqr5 (X.out.lies (d := .l M6) (cs := [.slice D6 m6 d6]) (by repeat (first | exact List.mem_cons_self | refine List.mem_cons_of_mem _ ?_))) htr6 hqr6).mono ?_
        rintro e w4 ⟨By2, ky2, By5, ky5, By6, ky6, a1, a2, rfl, hO2, hO5, hO6, -, -, -, hb⟩
        replace X := Lib.hid ((((X.out.below hb).lie hO2.lies).lie hO5.lies).lie hO6.lies)
        clear hb hO2 hO5 hO6
        clear x0 x1 x2 x3 x4 x5 x6 x7 x8 x9 x10 x11
        replace X := Lib.hid (X.out.push #[.int .i64 g0, .int .i64 g1, .slice By2 m2 ky2, .int .i64 g3, .int .i64 g4_0, .int .i64 g4_1, .slice By5 m5 ky5, .slice By6 m6 ky6, .int .i64 g7, .int .i64 g8, .int .i64 g9, .int .i64 g10] 30)
        obtain ⟨p0, p1, p2, p3, p4, p5, p6, p7, p8, p9, p10, p11⟩ := (X.out.1.box (g := w3.heap.size) (cs := [.int .i64 f0, .int .i64 f1, .slice Bx2 n2 kx2, .int .i64 f3, .int .i64 f4_0, .int .i64 f4_1, .slice Bx5 n5 kx5, .slice Bx6 n6 kx6, .int .i64 f7, .int .i64 f8, .int .i64 f9, .int .i64 f10]) (by repeat (first | exact List.mem_cons_self | refine List.mem_cons_of_mem _ ?_))).c12
        obtain ⟨x0, x1, x2, x3, x4, x5, x6, x7, x8, x9, x10, x11⟩ := (X.out.1.box (g := w4.heap.size) (cs := [.int .i64 g0, .int .i64 g1, .slice By2 m2 ky2, .int .i64 g3, .int .i64 g4_0, .int .i64 g4_1, .slice By5 m5 ky5, .slice By6 m6 ky6, .int .i64 g7, .int .i64 g8, .int .i64 g9, .int .i64 g10]) (by repeat (first | exact List.mem_cons_self | refine List.mem_cons_of_mem _ ?_))).c12
        go_wp2_with fail
        refine (implEqEnt f0 f1 L2 Bx2 n2 kx2 f3 f4_0 f4_1 L5 Bx5 n5 kx5 L6 Bx6 n6 kx6 f7 f8 f9 f10 g0 g1 M2 By2 m2 ky2 g3 g4_0 g4_1 M5 By5 m5 ky5 M6 By6 m6 ky6 g7 g8 g9 g10 _ (X.out.lies (d := .l L2) (cs := [.slice Bx2 n2 kx2]) (by repeat (first | exact List.mem_cons_self | refine List.mem_cons_of_mem _ ?_))) (X.out.lies (d := .l M2) (cs := [.slice By2 m2 ky2]) (by repeat (first | exact List.mem_cons_self | refine List.mem_cons_of_mem _ ?_))) ht2 htr2 hn2 (X.out.lies (d := .l L5) (cs := [.slice Bx5 n5 kx5]) (by repeat (first | exact List.mem_cons_self | refine List.mem_cons_of_mem _ ?_))) (X.out.lies (d := .l M5) (cs := [.slice By5 m5 ky5]) (by repeat (first | exact List.mem_cons_self | refine List.mem_cons_of_mem _ ?_))) ht5 htr5 hq5 hmr5 (X.out.lies (d := .l L6) (cs := [.slice Bx6 n6 kx6]) (by repeat (first | exact List.mem_cons_self | refine List.mem_cons_of_mem _ ?_))) (X.out.lies (d := .l M6) (cs := [.slice By6 m6 ky6]) (by repeat (first | exact List.mem_cons_self | refine List.mem_cons_of_mem _ ?_))) ht6 htr6 hn6 ).mono ?_
        rintro e w5 ⟨rfl, hb⟩
        rw [HV.out]
        replace X := Lib.hid (X.out.below hb)
        clear hb
        clear p0 p1 p2 p3 p4 p5 p6 p7 p8 p9 p10 p11
        clear x0 x1 x2 x3 x4 x5 x6 x7 x8 x9 x10 x11
        obtain ⟨p0, p1, p2, p3, p4, p5, p6, p7, p8, p9, p10, p11⟩ := (X.out.1.box (g := w3.heap.size) (cs := [.int .i64 f0, .int .i64 f1, .slice Bx2 n2 kx2, .int .i64 f3, .int .i64 f4_0, .int .i64 f4_1, .slice Bx5 n5 kx5, .slice Bx6 n6 kx6, .int .i64 f7, .int .i64 f8, .int .i64 f9, .int .i64 f10]) (by repeat (first | exact List.mem_cons_self | refine List.mem_cons_of_mem _ ?_))).c12
        obtain ⟨x0, x1, x2, x3, x4, x5, x6, x7, x8, x9, x10, x11⟩ := (X.out.1.box (g := W.heap.size) (cs := [.int .i64 f0, .int .i64 f1, .slice A2 n2 c2, .int .i64 f3, .int .i64 f4_0, .int .i64 f4_1, .slice A5 n5 c5, .slice A6 n6 c6, .int .i64 f7, .int .i64 f8, .int .i64 f9, .int .i64 f10]) (by repeat (first | exact List.mem_cons_self | refine List.mem_cons_of_mem _ ?_))).c12
        go_wp2_with fail
        replace X := Lib.hid X.out.drew
        go_region_held3 (fun w' => (w'.cell? ⟨w3.heap.size, 0, none⟩ = some (.int .i64 f0) ∧ w'.cell? ⟨w3.heap.size, 1, none⟩ = some (.int .i64 f1) ∧ w'.cell? ⟨w3.heap.size, 2, none⟩ = some (.slice Bx2 n2 kx2) ∧ w'.cell? ⟨w3.heap.size, 3, none⟩ = some (.int .i64 f3) ∧ w'.cell? ⟨w3.heap.size, 4, none⟩ = some (.int .i64 f4_0) ∧ w'.cell? ⟨w3.heap.size, 5, none⟩ = some (.int .i64 f4_1) ∧ w'.cell? ⟨w3.heap.size, 6, none⟩ = some (.slice Bx5 n5 kx5) ∧ w'.cell? ⟨w3.heap.size, 7, none⟩ = some (.slice Bx6 n6 kx6) ∧ w'.cell? ⟨w3.heap.size, 8, none⟩ = some (.int .i64 f7) ∧ w'.cell? ⟨w3.heap.size, 9, none⟩ = some (.int .i64 f8) ∧ w'.cell? ⟨w3.heap.size, 10, none⟩ = some (.int .i64 f9) ∧ w'.cell? ⟨w3.heap.size, 11, none⟩ = some (.int .i64 f10)) ∧ (w'.cell? ⟨W.heap.size, 0, none⟩ = some (.int .i64 f0) ∧ w'.cell? ⟨W.heap.size, 1, none⟩ = some (.int .i64 f1) ∧ w'.cell? ⟨W.heap.size, 2, none⟩ = some (.slice A2 n2 c2) ∧ w'.cell? ⟨W.heap.size, 3, none⟩ = some (.int .i64 f3) ∧ w'.cell? ⟨W.heap.size, 4, none⟩ = some (.int .i64 f4_0) ∧ w'.cell? ⟨W.heap.size, 5, none⟩ = some (.int .i64 f4_1) ∧ w'.cell? ⟨W.heap.size, 6, none⟩ = some (.slice A5 n5 c5) ∧ w'.cell? ⟨W.heap.size, 7, none⟩ = some (.slice A6 n6 c6) ∧ w'.cell? ⟨W.heap.size, 8, none⟩ = some (.int .i64 f7) ∧ w'.cell? ⟨W.heap.size, 9, none⟩ = some (.int .i64 f8) ∧ w'.cell? ⟨W.heap.size, 10, none⟩ = some (.int .i64 f9) ∧ w'.cell? ⟨W.heap.size, 11, none⟩ = some (.int .i64 f10)))
          (first | with_reducible exact ⟨(X.out.c12 (b := w3.heap.size) (v0 := .int .i64 f0) (v1 := .int .i64 f1) (v2 := .slice Bx2 n2 kx2) (v3 := .int .i64 f3) (v4 := .int .i64 f4_0) (v5 := .int .i64 f4_1) (v6 := .slice Bx5 n5 kx5) (v7 := .slice Bx6 n6 kx6) (v8 := .int .i64 f7) (v9 := .int .i64 f8) (v10 := .int .i64 f9) (v11 := .int .i64 f10) (by repeat (first | exact List.mem_cons_self | refine List.mem_cons_of_mem _ ?_))), (X.out.c12 (b := W.heap.size) (v0 := .int .i64 f0) (v1 := .int .i64 f1) (v2 := .slice A2 n2 c2) (v3 := .int .i64 f3) (v4 := .int .i64 f4_0) (v5 := .int .i64 f4_1) (v6 := .slice A5 n5 c5) (v7 := .slice A6 n6 c6) (v8 := .int .i64 f7) (v9 := .int .i64 f8) (v10 := .int .i64 f9) (v11 := .int .i64 f10) (by repeat (first | exact List.mem_cons_self | refine List.mem_cons_of_mem _ ?_)))⟩ | go_keep)
          (first
          | (go_at_call 37; (with_reducible refine (toEntity f0 f1 L2 A2 n2 c2 f3 f4_0 f4_1 L5 A5 n5 c5 L6 A6 n6 c6 f7 f8 f9 f10 _ (X.out.lies (d := .l L2) (cs := [.slice A2 n2 c2]) (by repeat (first | exact List.mem_cons_self | refine List.mem_cons_of_mem _ ?_))) ht2 hq2 (X.out.lies (d := .l L5) (cs := [.slice A5 n5 c5]) (by repeat (first | exact List.mem_cons_self | refine List.mem_cons_of_mem _ ?_))) ht5 hq5 (X.out.lies (d := .l L6) (cs := [.slice A6 n6 c6]) (by repeat (first | exact List.mem_cons_self | refine List.mem_cons_of_mem _ ?_))) ht6 hq6).mono ?_); rintro e u5 ⟨Bu2, ku2, Bu5, ku5, Bu6, ku6, a1, a2, rfl, hO2, hO5, hO6, -, -, -, hb5⟩; replace X := Lib.hid ((((X.out.below hb5).lie hO2.lies).lie hO5.lies).lie hO6.lies); clear hb5 hO2 hO5 hO6)
          | (go_at_call 28; (with_reducible refine (eqEntity f0 f1 L2 Bx2 n2 kx2 f3 f4_0 f4_1 L5 Bx5 n5 kx5 L6 Bx6 n6 kx6 f7 f8 f9 f10 Bu2 ku2 Bu5 ku5 Bu6 ku6 _ (X.out.lies (d := .l L2) (cs := [.slice Bx2 n2 kx2]) (by repeat (first | exact List.mem_cons_self | refine List.mem_cons_of_mem _ ?_))) (X.out.lies (d := .l L2) (cs := [.slice Bu2 n2 ku2]) (by repeat (first | exact List.mem_cons_self | refine List.mem_cons_of_mem _ ?_))) ht2 hm2 (X.out.lies (d := .l L5) (cs := [.slice Bx5 n5 kx5]) (by repeat (first | exact List.mem_cons_self | refine List.mem_cons_of_mem _ ?_))) (X.out.lies (d := .l L5) (cs := [.slice Bu5 n5 ku5]) (by repeat (first | exact List.mem_cons_self | refine List.mem_cons_of_mem _ ?_))) ht5 hm5 (X.out.lies (d := .l L6) (cs := [.slice Bx6 n6 kx6]) (by repeat (first | exact List.mem_cons_self | refine List.mem_cons_of_mem _ ?_))) (X.out.lies (d := .l L6) (cs := [.slice Bu6 n6 ku6]) (by repeat (first | exact List.mem_cons_self | refine List.mem_cons_of_mem _ ?_))) ht6 hm6).mono ?_); rintro e u6 ⟨rfl, hb5⟩; replace X := Lib.hid (X.out.below hb5); clear hb5))
        all_goals (
          try clear p0 p1 p2 p3 p4 p5 p6 p7 p8 p9 p10 p11 x0 x1 x2 x3 x4 x5 x6 x7 x8 x9 x10 x11
          obtain ⟨p0, p1, p2, p3, p4, p5, p6, p7, p8, p9, p10, p11⟩ := (X.out.1.box (g := w4.heap.size) (cs := [.int .i64 g0, .int .i64 g1, .slice By2 m2 ky2, .int .i64 g3, .int .i64 g4_0, .int .i64 g4_1, .slice By5 m5 ky5, .slice By6 m6 ky6, .int .i64 g7, .int .i64 g8, .int .i64 g9, .int .i64 g10]) (by repeat (first | exact List.mem_cons_self | refine List.mem_cons_of_mem _ ?_))).c12
          obtain ⟨x0, x1, x2, x3, x4, x5, x6, x7, x8, x9, x10, x11⟩ := (X.out.1.box (g := W.heap.size + 1) (cs := [.int .i64 g0, .int .i64 g1, .slice D2 m2 d2, .int .i64 g3, .int .i64 g4_0, .int .i64 g4_1, .slice D5 m5 d5, .slice D6 m6 d6, .int .i64 g7, .int .i64 g8, .int .i64 g9, .int .i64 g10]) (by repeat (first | exact List.mem_cons_self | refine List.mem_cons_of_mem _ ?_))).c12
          go_wp2_with fail
          replace X := Lib.hid X.out.drew
          go_region_held3 (fun w' => (w'.cell? ⟨w4.heap.size, 0, none⟩ = some (.int .i64 g0) ∧ w'.cell? ⟨w4.heap.size, 1, none⟩ = some (.int .i64 g1) ∧ w'.cell? ⟨w4.heap.size, 2, none⟩ = some (.slice By2 m2 ky2) ∧ w'.cell? ⟨w4.heap.size, 3, none⟩ = some (.int .i64 g3) ∧ w'.cell? ⟨w4.heap.size, 4, none⟩ = some (.int .i64 g4_0) ∧ w'.cell? ⟨w4.heap.size, 5, none⟩ = some (.int .i64 g4_1) ∧ w'.cell? ⟨w4.heap.size, 6, none⟩ = some (.slice By5 m5 ky5) ∧ w'.cell? ⟨w4.heap.size, 7, none⟩ = some (.slice By6 m6 ky6) ∧ w'.cell? ⟨w4.heap.size, 8, none⟩ = some (.int .i64 g7) ∧ w'.cell? ⟨w4.heap.size, 9, none⟩ = some (.int .i64 g8) ∧ w'.cell? ⟨w4.heap.size, 10, none⟩ = some (.int .i64 g9) ∧ w'.cell? ⟨w4.heap.size, 11, none⟩ = some (.int .i64 g10)) ∧ (w'.cell? ⟨W.heap.size + 1, 0, none⟩ = some (.int .i64 g0) ∧ w'.cell? ⟨W.heap.size + 1, 1, none⟩ = some (.int .i64 g1) ∧ w'.cell? ⟨W.heap.size + 1, 2, none⟩ = some (.slice D2 m2 d2) ∧ w'.cell? ⟨W.heap.size + 1, 3, none⟩ = some (.int .i64 g3) ∧ w'.cell? ⟨W.heap.size + 1, 4, none⟩ = some (.int .i64 g4_0) ∧ w'.cell? ⟨W.heap.size + 1, 5, none⟩ = some (.int .i64 g4_1) ∧ w'.cell? ⟨W.heap.size + 1, 6, none⟩ = some (.slice D5 m5 d5) ∧ w'.cell? ⟨W.heap.size + 1, 7, none⟩ = some (.slice D6 m6 d6) ∧ w'.cell? ⟨W.heap.size + 1, 8, none⟩ = some (.int .i64 g7) ∧ w'.cell? ⟨W.heap.size + 1, 9, none⟩ = some (.int .i64 g8) ∧ w'.cell? ⟨W.heap.size + 1, 10, none⟩ = some (.int .i64 g9) ∧ w'.cell? ⟨W.heap.size + 1, 11, none⟩ = some (.int .i64 g10)))
            (first | with_reducible exact ⟨(X.out.c12 (b := w4.heap.size) (v0 := .int .i64 g0) (v1 := .int .i64 g1) (v2 := .slice By2 m2 ky2) (v3 := .int .i64 g3) (v4 := .int .i64 g4_0) (v5 := .int .i64 g4_1) (v6 := .slice By5 m5 ky5) (v7 := .slice By6 m6 ky6) (v8 := .int .i64 g7) (v9 := .int .i64 g8) (v10 := .int .i64 g9) (v11 := .int .i64 g10) (by repeat (first | exact List.mem_cons_self | refine List.mem_cons_of_mem _ ?_))), (X.out.c12 (b := W.heap.size + 1) (v0 := .int .i64 g0) (v1 := .int .i64 g1) (v2 := .slice D2 m2 d2) (v3 := .int .i64 g3) (v4 := .int .i64 g4_0) (v5 := .int .i64 g4_1) (v6 := .slice D5 m5 d5) (v7 := .slice D6 m6 d6) (v8 := .int .i64 g7) (v9 := .int .i64 g8) (v10 := .int .i64 g9) (v11 := .int .i64 g10) (by repeat (first | exact List.mem_cons_self | refine List.mem_cons_of_mem _ ?_)))⟩ | go_keep)
            (first
            | (go_at_call 37; (with_reducible refine (toEntity g0 g1 M2 D2 m2 d2 g3 g4_0 g4_1 M5 D5 m5 d5 M6 D6 m6 d6 g7 g8 g9 g10 _ (X.out.lies (d := .l M2) (cs := [.slice D2 m2 d2]) (by repeat (first | exact List.mem_cons_self | refine List.mem_cons_of_mem _ ?_))) htr2 hqr2 (X.out.lies (d := .l M5) (cs := [.slice D5 m5 d5]) (by repeat (first | exact List.mem_cons_self | refine List.mem_cons_of_mem _ ?_))) htr5 hqr5 (X.out.lies (d := .l M6) (cs := [.slice D6 m6 d6]) (by repeat (first | exact List.mem_cons_self | refine List.mem_cons_of_mem _ ?_))) htr6 hqr6).mono ?_); rintro e u5 ⟨Bv2, kv2, Bv5, kv5, Bv6, kv6, a1, a2, rfl, hO2, hO5, hO6, -, -, -, hb5⟩; replace X := Lib.hid ((((X.out.below hb5).lie hO2.lies).lie hO5.lies).lie hO6.lies); clear hb5 hO2 hO5 hO6)
            | (go_at_call 28; (with_reducible refine (eqEntity g0 g1 M2 By2 m2 ky2 g3 g4_0 g4_1 M5 By5 m5 ky5 M6 By6 m6 ky6 g7 g8 g9 g10 Bv2 kv2 Bv5 kv5 Bv6 kv6 _ (X.out.lies (d := .l M2) (cs := [.slice By2 m2 ky2]) (by repeat (first | exact List.mem_cons_self | refine List.mem_cons_of_mem _ ?_))) (X.out.lies (d := .l M2) (cs := [.slice Bv2 m2 kv2]) (by repeat (first | exact List.mem_cons_self | refine List.mem_cons_of_mem _ ?_))) htr2 hmr2 (X.out.lies (d := .l M5) (cs := [.slice By5 m5 ky5]) (by repeat (first | exact List.mem_cons_self | refine List.mem_cons_of_mem _ ?_))) (X.out.lies (d := .l M5) (cs := [.slice Bv5 m5 kv5]) (by repeat (first | exact List.mem_cons_self | refine List.mem_cons_of_mem _ ?_))) htr5 hmr5 (X.out.lies (d := .l M6) (cs := [.slice By6 m6 ky6]) (by repeat (first | exact List.mem_cons_self | refine List.mem_cons_of_mem _ ?_))) (X.out.lies (d := .l M6) (cs := [.slice Bv6 m6 kv6]) (by repeat (first | exact List.mem_cons_self | refine List.mem_cons_of_mem _ ?_))) htr6 hmr6).mono ?_); rintro e u6 ⟨rfl, hb5⟩; replace X := Lib.hid (X.out.below hb5); clear hb5))
          all_goals (
            try clear p0 p1 p2 p3 p4 p5 p6 p7 p8 p9 p10 p11 x0 x1 x2 x3 x4 x5 x6 x7 x8 x9 x10 x11
            go_wp2_with fail
            go_ret
            exact GivesBool.ret X.out.low)))
end Go.Proofs.Ytfgijebgnkikpaa
