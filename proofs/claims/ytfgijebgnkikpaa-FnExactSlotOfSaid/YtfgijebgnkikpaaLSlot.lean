/- Exact laws of chapter 9: SlotOf. -/
import Derived.Test.YtfgijebgnkikpaaLawE0
import Derived.Test.YtfgijebgnkikpaaPendE
import Derived.Test.YtfgijebgnkikpaaTyE2
import Derived.Test.YtfgijebgnkikpaaTyE4
import Derived.Test.YtfgijebgnkikpaaTyE5
import Derived.Deep.RegionHeld3
import Derived.LoopTactic
import Derived.Lib.Hide
import Derived.Deep.QuietTactic
import Derived.BigQuiet
import Derived.Deep.RegionWith
import Derived.Handy
namespace Go.Proofs.Ytfgijebgnkikpaa
open Go.RowKit
set_option linter.unusedVariables false
set_option linter.unusedSimpArgs false
set_option maxRecDepth 100000 in
set_option maxHeartbeats 16000000 in
theorem law_SlotOf (f0 : Int) (f1 : Int) (L2 : List Dat) (A2 : Option Addr) (n2 c2 : Nat) (f3 : Int) (f4_0 : Int) (f4_1 : Int) (L5 : List Dat) (A5 : Option Addr) (n5 c5 : Nat) (L6 : List Dat) (A6 : Option Addr) (n6 c6 : Nat) (f7 : Int) (f8 : Int) (f9 : Int) (f10 : Int) (i : Int) (W : World) (hl2 : Lies W (.l L2) [.slice A2 n2 c2]) (ht2 : ∀ x ∈ L2, Has tyValue x) (hm2 : n2 ≤ 9223372036854775807) (hl5 : Lies W (.l L5) [.slice A5 n5 c5]) (ht5 : ∀ x ∈ L5, Has tySent x) (hm5 : n5 ≤ 9223372036854775807) (hl6 : Lies W (.l L6) [.slice A6 n6 c6]) (ht6 : ∀ x ∈ L6, Has tyAsker x) (hm6 : n6 ≤ 9223372036854775807) (hi : -9223372036854775808 ≤ i ∧ i ≤ 9223372036854775807) :
    Calls Try.prog 9 #[.agg #[.int .i64 f0, .int .i64 f1, .slice A2 n2 c2, .int .i64 f3, .int .i64 f4_0, .int .i64 f4_1, .slice A5 n5 c5, .slice A6 n6 c6, .int .i64 f7, .int .i64 f8, .int .i64 f9, .int .i64 f10], .int .i64 i] W (GivesBool true W) := by
  have X := Lib.hid ((((St.start W).lie hl2).lie hl5).lie hl6)
  have hc2 := Lib.hid hl2.count
  have hc5 := Lib.hid hl5.count
  have hc6 := Lib.hid hl6.count
  clear hl2 hl5 hl6
  replace X := Lib.hid (X.out.push #[.int .i64 f0, .int .i64 f1, .slice A2 n2 c2, .int .i64 f3, .int .i64 f4_0, .int .i64 f4_1, .slice A5 n5 c5, .slice A6 n6 c6, .int .i64 f7, .int .i64 f8, .int .i64 f9, .int .i64 f10] 58)
  obtain ⟨v, hv⟩ : ∃ v, slotV L2 i = v := ⟨_, rfl⟩
  have HV := Lib.hid hv
  clear hv
  rcases leftD_cases (.r [.i f0, .i f1, .l L2, .i f3, .r [.i f4_0, .i f4_1], .l L5, .l L6, .i f7, .i f8, .i f9, .i f10] : Dat) 1048576 with hbig | ⟨r, hr, hr0, hr1, hb⟩
  case inl =>
    have HBIG := Lib.hid hbig
    clear hbig
    go_enter Try.func9, Try.ntmps9
    obtain ⟨x0, x1, x2, x3, x4, x5, x6, x7, x8, x9, x10, x11⟩ := (X.out.1.box (g := W.heap.size) (cs := [.int .i64 f0, .int .i64 f1, .slice A2 n2 c2, .int .i64 f3, .int .i64 f4_0, .int .i64 f4_1, .slice A5 n5 c5, .slice A6 n6 c6, .int .i64 f7, .int .i64 f8, .int .i64 f9, .int .i64 f10]) (by repeat (first | exact List.mem_cons_self | refine List.mem_cons_of_mem _ ?_))).c12
    go_wp2_with fail
    refine (szEntity f0 f1 L2 A2 n2 c2 f3 f4_0 f4_1 L5 A5 n5 c5 L6 A6 n6 c6 f7 f8 f9 f10 (1048576) _ (by omega) (by omega) (X.out.lies (d := .l L2) (cs := [.slice A2 n2 c2]) (by repeat (first | exact List.mem_cons_self | refine List.mem_cons_of_mem _ ?_))) ht2 hm2 (X.out.lies (d := .l L5) (cs := [.slice A5 n5 c5]) (by repeat (first | exact List.mem_cons_self | refine List.mem_cons_of_mem _ ?_))) ht5 hm5 (X.out.lies (d := .l L6) (cs := [.slice A6 n6 c6]) (by repeat (first | exact List.mem_cons_self | refine List.mem_cons_of_mem _ ?_))) ht6 hm6).mono ?_
    rintro e w1 ⟨rfl, hb⟩
    rw [HBIG.out]
    replace X := Lib.hid (X.out.below hb)
    clear hb
    clear x0 x1 x2 x3 x4 x5 x6 x7 x8 x9 x10 x11
    go_wp2_with fail
    go_ret
    exact GivesBool.ret X.out.low
  case inr =>
    have HR := Lib.hid hr
    clear hr
    have hq2 : (Dat.l L2).bulk ≤ 1099511627776 := by simp only [Dat.bulk, bulkAll] at hb ⊢; omega
    have hn2 : n2 ≤ 1099511627776 := by have h1 := hc2.out; simp only [Dat.bulk, bulkAll] at hb; omega
    have hq5 : (Dat.l L5).bulk ≤ 1099511627776 := by simp only [Dat.bulk, bulkAll] at hb ⊢; omega
    have hn5 : n5 ≤ 1099511627776 := by have h1 := hc5.out; simp only [Dat.bulk, bulkAll] at hb; omega
    have hq6 : (Dat.l L6).bulk ≤ 1099511627776 := by simp only [Dat.bulk, bulkAll] at hb ⊢; omega
    have hn6 : n6 ≤ 1099511627776 := by have h1 := hc6.out; simp only [Dat.bulk, bulkAll] at hb; omega
    go_enter Try.func9, Try.ntmps9
    obtain ⟨x0, x1, x2, x3, x4, x5, x6, x7, x8, x9, x10, x11⟩ := (X.out.1.box (g := W.heap.size) (cs := [.int .i64 f0, .int .i64 f1, .slice A2 n2 c2, .int .i64 f3, .int .i64 f4_0, .int .i64 f4_1, .slice A5 n5 c5, .slice A6 n6 c6, .int .i64 f7, .int .i64 f8, .int .i64 f9, .int .i64 f10]) (by repeat (first | exact List.mem_cons_self | refine List.mem_cons_of_mem _ ?_))).c12
    go_wp2_with fail
    refine (szEntity f0 f1 L2 A2 n2 c2 f3 f4_0 f4_1 L5 A5 n5 c5 L6 A6 n6 c6 f7 f8 f9 f10 (1048576) _ (by omega) (by omega) (X.out.lies (d := .l L2) (cs := [.slice A2 n2 c2]) (by repeat (first | exact List.mem_cons_self | refine List.mem_cons_of_mem _ ?_))) ht2 hm2 (X.out.lies (d := .l L5) (cs := [.slice A5 n5 c5]) (by repeat (first | exact List.mem_cons_self | refine List.mem_cons_of_mem _ ?_))) ht5 hm5 (X.out.lies (d := .l L6) (cs := [.slice A6 n6 c6]) (by repeat (first | exact List.mem_cons_self | refine List.mem_cons_of_mem _ ?_))) ht6 hm6).mono ?_
    rintro e w1 ⟨rfl, hb⟩
    rw [HR.out]
    replace X := Lib.hid (X.out.below hb)
    clear hb
    clear x0 x1 x2 x3 x4 x5 x6 x7 x8 x9 x10 x11
    obtain ⟨x0, x1, x2, x3, x4, x5, x6, x7, x8, x9, x10, x11⟩ := (X.out.1.box (g := W.heap.size) (cs := [.int .i64 f0, .int .i64 f1, .slice A2 n2 c2, .int .i64 f3, .int .i64 f4_0, .int .i64 f4_1, .slice A5 n5 c5, .slice A6 n6 c6, .int .i64 f7, .int .i64 f8, .int .i64 f9, .int .i64 f10]) (by repeat (first | exact List.mem_cons_self | refine List.mem_cons_of_mem _ ?_))).c12
    go_wp2_with fail
    refine (toEntity f0 f1 L2 A2 n2 c2 f3 f4_0 f4_1 L5 A5 n5 c5 L6 A6 n6 c6 f7 f8 f9 f10 _ (X.out.lies (d := .l L2) (cs := [.slice A2 n2 c2]) (by repeat (first | exact List.mem_cons_self | refine List.mem_cons_of_mem _ ?_))) ht2 hq2 (X.out.lies (d := .l L5) (cs := [.slice A5 n5 c5]) (by repeat (first | exact List.mem_cons_self | refine List.mem_cons_of_mem _ ?_))) ht5 hq5 (X.out.lies (d := .l L6) (cs := [.slice A6 n6 c6]) (by repeat (first | exact List.mem_cons_self | refine List.mem_cons_of_mem _ ?_))) ht6 hq6).mono ?_
    rintro e w2 ⟨Bt2, kt2, Bt5, kt5, Bt6, kt6, a1, a2, rfl, hO2, hO5, hO6, -, -, -, hb⟩
    replace X := Lib.hid ((((X.out.below hb).lie hO2.lies).lie hO5.lies).lie hO6.lies)
    clear hb hO2 hO5 hO6
    clear x0 x1 x2 x3 x4 x5 x6 x7 x8 x9 x10 x11
    go_wp2_with fail
    refine (specSlot f0 f1 L2 Bt2 n2 kt2 f3 f4_0 f4_1 L5 Bt5 n5 kt5 L6 Bt6 n6 kt6 f7 f8 f9 f10 i _ (X.out.lies (d := .l L2) (cs := [.slice Bt2 n2 kt2]) (by repeat (first | exact List.mem_cons_self | refine List.mem_cons_of_mem _ ?_))) ht2 hn2 hi).mono ?_
    rintro e w3 ⟨rfl, hb⟩
    rw [HV.out]
    replace X := Lib.hid (X.out.below hb)
    clear hb
    replace X := Lib.hid (X.out.push #[.int .i64 v.kind, .int .i64 v.n] 26)
    obtain ⟨x0, x1, x2, x3, x4, x5, x6, x7, x8, x9, x10, x11⟩ := (X.out.1.box (g := W.heap.size) (cs := [.int .i64 f0, .int .i64 f1, .slice A2 n2 c2, .int .i64 f3, .int .i64 f4_0, .int .i64 f4_1, .slice A5 n5 c5, .slice A6 n6 c6, .int .i64 f7, .int .i64 f8, .int .i64 f9, .int .i64 f10]) (by repeat (first | exact List.mem_cons_self | refine List.mem_cons_of_mem _ ?_))).c12
    go_wp2_with fail
    refine (toEntity f0 f1 L2 A2 n2 c2 f3 f4_0 f4_1 L5 A5 n5 c5 L6 A6 n6 c6 f7 f8 f9 f10 _ (X.out.lies (d := .l L2) (cs := [.slice A2 n2 c2]) (by repeat (first | exact List.mem_cons_self | refine List.mem_cons_of_mem _ ?_))) ht2 hq2 (X.out.lies (d := .l L5) (cs := [.slice A5 n5 c5]) (by repeat (first | exact List.mem_cons_self | refine List.mem_cons_of_mem _ ?_))) ht5 hq5 (X.out.lies (d := .l L6) (cs := [.slice A6 n6 c6]) (by repeat (first | exact List.mem_cons_self | refine List.mem_cons_of_mem _ ?_))) ht6 hq6).mono ?_
    rintro e w4 ⟨Bx2, kx2, Bx5, kx5, Bx6, kx6, a1, a2, rfl, hO2, hO5, hO6, -, -, -, hb⟩
    replace X := Lib.hid ((((X.out.below hb).lie hO2.lies).lie hO5.lies).lie hO6.lies)
    clear hb hO2 hO5 hO6
    clear x0 x1 x2 x3 x4 x5 x6 x7 x8 x9 x10 x11
    replace X := Lib.hid (X.out.push #[.int .i64 f0, .int .i64 f1, .slice Bx2 n2 kx2, .int .i64 f3, .int .i64 f4_0, .int .i64 f4_1, .slice Bx5 n5 kx5, .slice Bx6 n6 kx6, .int .i64 f7, .int .i64 f8, .int .i64 f9, .int .i64 f10] 30)
    obtain ⟨p0, p1, p2, p3, p4, p5, p6, p7, p8, p9, p10, p11⟩ := (X.out.1.box (g := w4.heap.size) (cs := [.int .i64 f0, .int .i64 f1, .slice Bx2 n2 kx2, .int .i64 f3, .int .i64 f4_0, .int .i64 f4_1, .slice Bx5 n5 kx5, .slice Bx6 n6 kx6, .int .i64 f7, .int .i64 f8, .int .i64 f9, .int .i64 f10]) (by repeat (first | exact List.mem_cons_self | refine List.mem_cons_of_mem _ ?_))).c12
    go_wp2_with fail
    refine (implSlot f0 f1 L2 Bx2 n2 kx2 f3 f4_0 f4_1 L5 Bx5 n5 kx5 L6 Bx6 n6 kx6 f7 f8 f9 f10 i _ (X.out.lies (d := .l L2) (cs := [.slice Bx2 n2 kx2]) (by repeat (first | exact List.mem_cons_self | refine List.mem_cons_of_mem _ ?_))) ht2 hn2 hi).mono ?_
    rintro e w5 ⟨rfl, hb⟩
    rw [HV.out]
    replace X := Lib.hid (X.out.below hb)
    clear hb
    clear p0 p1 p2 p3 p4 p5 p6 p7 p8 p9 p10 p11
    replace X := Lib.hid (X.out.push #[.int .i64 v.kind, .int .i64 v.n] 26)
    have p0 := X.out.1.at_ (g := w3.heap.size) (i := 0) (v := .int .i64 v.kind) (cs := [.int .i64 v.kind, .int .i64 v.n]) (by repeat (first | exact List.mem_cons_self | refine List.mem_cons_of_mem _ ?_)) rfl
    have p1 := X.out.1.at_ (g := w3.heap.size) (i := 1) (v := .int .i64 v.n) (cs := [.int .i64 v.kind, .int .i64 v.n]) (by repeat (first | exact List.mem_cons_self | refine List.mem_cons_of_mem _ ?_)) rfl
    have q0 := X.out.1.at_ (g := w5.heap.size) (i := 0) (v := .int .i64 v.kind) (cs := [.int .i64 v.kind, .int .i64 v.n]) (by repeat (first | exact List.mem_cons_self | refine List.mem_cons_of_mem _ ?_)) rfl
    have q1 := X.out.1.at_ (g := w5.heap.size) (i := 1) (v := .int .i64 v.n) (cs := [.int .i64 v.kind, .int .i64 v.n]) (by repeat (first | exact List.mem_cons_self | refine List.mem_cons_of_mem _ ?_)) rfl
    go_wp2_with fail
    refine (eqValue v.kind v.n _).mono ?_
    rintro e w6 ⟨rfl, hb⟩
    replace X := Lib.hid (X.out.below hb)
    clear hb
    clear p0 p1
    clear q0 q1
    obtain ⟨p0, p1, p2, p3, p4, p5, p6, p7, p8, p9, p10, p11⟩ := (X.out.1.box (g := w4.heap.size) (cs := [.int .i64 f0, .int .i64 f1, .slice Bx2 n2 kx2, .int .i64 f3, .int .i64 f4_0, .int .i64 f4_1, .slice Bx5 n5 kx5, .slice Bx6 n6 kx6, .int .i64 f7, .int .i64 f8, .int .i64 f9, .int .i64 f10]) (by repeat (first | exact List.mem_cons_self | refine List.mem_cons_of_mem _ ?_))).c12
    obtain ⟨x0, x1, x2, x3, x4, x5, x6, x7, x8, x9, x10, x11⟩ := (X.out.1.box (g := W.heap.size) (cs := [.int .i64 f0, .int .i64 f1, .slice A2 n2 c2, .int .i64 f3, .int .i64 f4_0, .int .i64 f4_1, .slice A5 n5 c5, .slice A6 n6 c6, .int .i64 f7, .int .i64 f8, .int .i64 f9, .int .i64 f10]) (by repeat (first | exact List.mem_cons_self | refine List.mem_cons_of_mem _ ?_))).c12
    go_wp2_with fail
    replace X := Lib.hid X.out.drew
    go_region_held3 (fun w' => (w'.cell? ⟨w4.heap.size, 0, none⟩ = some (.int .i64 f0) ∧ w'.cell? ⟨w4.heap.size, 1, none⟩ = some (.int .i64 f1) ∧ w'.cell? ⟨w4.heap.size, 2, none⟩ = some (.slice Bx2 n2 kx2) ∧ w'.cell? ⟨w4.heap.size, 3, none⟩ = some (.int .i64 f3) ∧ w'.cell? ⟨w4.heap.size, 4, none⟩ = some (.int .i64 f4_0) ∧ w'.cell? ⟨w4.heap.size, 5, none⟩ = some (.int .i64 f4_1) ∧ w'.cell? ⟨w4.heap.size, 6, none⟩ = some (.slice Bx5 n5 kx5) ∧ w'.cell? ⟨w4.heap.size, 7, none⟩ = some (.slice Bx6 n6 kx6) ∧ w'.cell? ⟨w4.heap.size, 8, none⟩ = some (.int .i64 f7) ∧ w'.cell? ⟨w4.heap.size, 9, none⟩ = some (.int .i64 f8) ∧ w'.cell? ⟨w4.heap.size, 10, none⟩ = some (.int .i64 f9) ∧ w'.cell? ⟨w4.heap.size, 11, none⟩ = some (.int .i64 f10)) ∧ (w'.cell? ⟨W.heap.size, 0, none⟩ = some (.int .i64 f0) ∧ w'.cell? ⟨W.heap.size, 1, none⟩ = some (.int .i64 f1) ∧ w'.cell? ⟨W.heap.size, 2, none⟩ = some (.slice A2 n2 c2) ∧ w'.cell? ⟨W.heap.size, 3, none⟩ = some (.int .i64 f3) ∧ w'.cell? ⟨W.heap.size, 4, none⟩ = some (.int .i64 f4_0) ∧ w'.cell? ⟨W.heap.size, 5, none⟩ = some (.int .i64 f4_1) ∧ w'.cell? ⟨W.heap.size, 6, none⟩ = some (.slice A5 n5 c5) ∧ w'.cell? ⟨W.heap.size, 7, none⟩ = some (.slice A6 n6 c6) ∧ w'.cell? ⟨W.heap.size, 8, none⟩ = some (.int .i64 f7) ∧ w'.cell? ⟨W.heap.size, 9, none⟩ = some (.int .i64 f8) ∧ w'.cell? ⟨W.heap.size, 10, none⟩ = some (.int .i64 f9) ∧ w'.cell? ⟨W.heap.size, 11, none⟩ = some (.int .i64 f10)))
      (first | with_reducible exact ⟨(X.out.c12 (b := w4.heap.size) (v0 := .int .i64 f0) (v1 := .int .i64 f1) (v2 := .slice Bx2 n2 kx2) (v3 := .int .i64 f3) (v4 := .int .i64 f4_0) (v5 := .int .i64 f4_1) (v6 := .slice Bx5 n5 kx5) (v7 := .slice Bx6 n6 kx6) (v8 := .int .i64 f7) (v9 := .int .i64 f8) (v10 := .int .i64 f9) (v11 := .int .i64 f10) (by repeat (first | exact List.mem_cons_self | refine List.mem_cons_of_mem _ ?_))), (X.out.c12 (b := W.heap.size) (v0 := .int .i64 f0) (v1 := .int .i64 f1) (v2 := .slice A2 n2 c2) (v3 := .int .i64 f3) (v4 := .int .i64 f4_0) (v5 := .int .i64 f4_1) (v6 := .slice A5 n5 c5) (v7 := .slice A6 n6 c6) (v8 := .int .i64 f7) (v9 := .int .i64 f8) (v10 := .int .i64 f9) (v11 := .int .i64 f10) (by repeat (first | exact List.mem_cons_self | refine List.mem_cons_of_mem _ ?_)))⟩ | go_keep)
      (first
      | (go_at_call 37; (with_reducible refine (toEntity f0 f1 L2 A2 n2 c2 f3 f4_0 f4_1 L5 A5 n5 c5 L6 A6 n6 c6 f7 f8 f9 f10 _ (X.out.lies (d := .l L2) (cs := [.slice A2 n2 c2]) (by repeat (first | exact List.mem_cons_self | refine List.mem_cons_of_mem _ ?_))) ht2 hq2 (X.out.lies (d := .l L5) (cs := [.slice A5 n5 c5]) (by repeat (first | exact List.mem_cons_self | refine List.mem_cons_of_mem _ ?_))) ht5 hq5 (X.out.lies (d := .l L6) (cs := [.slice A6 n6 c6]) (by repeat (first | exact List.mem_cons_self | refine List.mem_cons_of_mem _ ?_))) ht6 hq6).mono ?_); rintro e u5 ⟨Bu2, ku2, Bu5, ku5, Bu6, ku6, a1, a2, rfl, hO2, hO5, hO6, -, -, -, hb5⟩; replace X := Lib.hid ((((X.out.below hb5).lie hO2.lies).lie hO5.lies).lie hO6.lies); clear hb5 hO2 hO5 hO6)
      | (go_at_call 28; (with_reducible refine (eqEntity f0 f1 L2 Bx2 n2 kx2 f3 f4_0 f4_1 L5 Bx5 n5 kx5 L6 Bx6 n6 kx6 f7 f8 f9 f10 Bu2 ku2 Bu5 ku5 Bu6 ku6 _ (X.out.lies (d := .l L2) (cs := [.slice Bx2 n2 kx2]) (by repeat (first | exact List.mem_cons_self | refine List.mem_cons_of_mem _ ?_))) (X.out.lies (d := .l L2) (cs := [.slice Bu2 n2 ku2]) (by repeat (first | exact List.mem_cons_self | refine List.mem_cons_of_mem _ ?_))) ht2 hm2 (X.out.lies (d := .l L5) (cs := [.slice Bx5 n5 kx5]) (by repeat (first | exact List.mem_cons_self | refine List.mem_cons_of_mem _ ?_))) (X.out.lies (d := .l L5) (cs := [.slice Bu5 n5 ku5]) (by repeat (first | exact List.mem_cons_self | refine List.mem_cons_of_mem _ ?_))) ht5 hm5 (X.out.lies (d := .l L6) (cs := [.slice Bx6 n6 kx6]) (by repeat (first | exact List.mem_cons_self | refine List.mem_cons_of_mem _ ?_))) (X.out.lies (d := .l L6) (cs := [.slice Bu6 n6 ku6]) (by repeat (first | exact List.mem_cons_self | refine List.mem_cons_of_mem _ ?_))) ht6 hm6).mono ?_); rintro e u6 ⟨rfl, hb5⟩; replace X := Lib.hid (X.out.below hb5); clear hb5))
    all_goals (
      try clear p0 p1 p2 p3 p4 p5 p6 p7 p8 p9 p10 p11 x0 x1 x2 x3 x4 x5 x6 x7 x8 x9 x10 x11
      go_wp2_with fail
      go_ret
      exact GivesBool.ret X.out.low)
end Go.Proofs.Ytfgijebgnkikpaa
