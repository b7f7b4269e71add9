/- Exact laws of chapter 10: FindExport, PosOf. -/
import Derived.Test.YtdedioghljkflaaLawL0
import Derived.Test.YtdedioghljkflaaLnkF
import Derived.Test.YtdedioghljkflaaTyG2
import Derived.Test.YtdedioghljkflaaTyG4
import Derived.Test.YtdedioghljkflaaTyG5
import Derived.Deep.RegionHeld3
import Derived.LoopTactic
import Derived.Lib.Hide
import Derived.Deep.QuietTactic
import Derived.BigQuiet
import Derived.Deep.RegionWith
import Derived.Handy
namespace Go.Proofs.Ytdedioghljkflaa
open Go.RowKit
set_option linter.unusedVariables false
set_option linter.unusedSimpArgs false
set_option maxRecDepth 100000 in
set_option maxHeartbeats 16000000 in
theorem law_FindExport (f0 : Int) (f1 : Bool) (L2 : List Dat) (A2 : Option Addr) (n2 c2 : Nat) (f3 : Int) (L4 : List Dat) (A4 : Option Addr) (n4 c4 : Nat) (f5 : Int) (L6 : List Dat) (A6 : Option Addr) (n6 c6 : Nat) (i : Int) (W : World) (hl2 : Lies W (.l L2) [.slice A2 n2 c2]) (ht2 : ∀ x ∈ L2, Has tyExport x) (hm2 : n2 ≤ 9223372036854775807) (hl4 : Lies W (.l L4) [.slice A4 n4 c4]) (ht4 : ∀ x ∈ L4, Has tyQuestion x) (hm4 : n4 ≤ 9223372036854775807) (hl6 : Lies W (.l L6) [.slice A6 n6 c6]) (ht6 : ∀ x ∈ L6, Has tyQuestion x) (hm6 : n6 ≤ 9223372036854775807) :
    Calls Try.prog 5 #[.agg #[.int .i64 f0, .bool f1, .slice A2 n2 c2, .int .i64 f3, .slice A4 n4 c4, .int .i64 f5, .slice A6 n6 c6], .int .i64 i] W (GivesBool true W) := by
  have X := Lib.hid ((((St.start W).lie hl2).lie hl4).lie hl6)
  have hc2 := Lib.hid hl2.count
  have hc4 := Lib.hid hl4.count
  have hc6 := Lib.hid hl6.count
  clear hl2 hl4 hl6
  replace X := Lib.hid (X.out.push #[.int .i64 f0, .bool f1, .slice A2 n2 c2, .int .i64 f3, .slice A4 n4 c4, .int .i64 f5, .slice A6 n6 c6] 41)
  obtain ⟨v, hv⟩ : ∃ v, look (isF 0 i) 1 (-1) L2 = v := ⟨_, rfl⟩
  have HV := Lib.hid hv
  clear hv
  rcases leftD_cases (.r [.i f0, .b f1, .l L2, .i f3, .l L4, .i f5, .l L6] : Dat) 1048576 with hbig | ⟨r, hr, hr0, hr1, hb⟩
  case inl =>
    have HBIG := Lib.hid hbig
    clear hbig
    go_enter Try.func5, Try.ntmps5
    obtain ⟨x0, x1, x2, x3, x4, x5, x6⟩ := (X.out.1.box (g := W.heap.size) (cs := [.int .i64 f0, .bool f1, .slice A2 n2 c2, .int .i64 f3, .slice A4 n4 c4, .int .i64 f5, .slice A6 n6 c6]) (by repeat (first | exact List.mem_cons_self | refine List.mem_cons_of_mem _ ?_))).c7
    go_wp2_with fail
    refine (szLink f0 f1 L2 A2 n2 c2 f3 L4 A4 n4 c4 f5 L6 A6 n6 c6 (1048576) _ (by omega) (by omega) (X.out.lies (d := .l L2) (cs := [.slice A2 n2 c2]) (by repeat (first | exact List.mem_cons_self | refine List.mem_cons_of_mem _ ?_))) ht2 hm2 (X.out.lies (d := .l L4) (cs := [.slice A4 n4 c4]) (by repeat (first | exact List.mem_cons_self | refine List.mem_cons_of_mem _ ?_))) ht4 hm4 (X.out.lies (d := .l L6) (cs := [.slice A6 n6 c6]) (by repeat (first | exact List.mem_cons_self | refine List.mem_cons_of_mem _ ?_))) ht6 hm6).mono ?_
    rintro e w1 ⟨rfl, hb⟩
    rw [HBIG.out]
    replace X := Lib.hid (X.out.below hb)
    clear hb
    clear x0 x1 x2 x3 x4 x5 x6
    go_wp2_with fail
    go_ret
    exact GivesBool.ret X.out.low
  case inr =>
    have HR := Lib.hid hr
    clear hr
    have hq2 : (Dat.l L2).bulk ≤ 1099511627776 := by simp only [Dat.bulk, bulkAll] at hb ⊢; omega
    have hn2 : n2 ≤ 1099511627776 := by have h1 := hc2.out; simp only [Dat.bulk, bulkAll] at hb; omega
    have hq4 : (Dat.l L4).bulk ≤ 1099511627776 := by simp only [Dat.bulk, bulkAll] at hb ⊢; omega
    have hn4 : n4 ≤ 1099511627776 := by have h1 := hc4.out; simp only [Dat.bulk, bulkAll] at hb; omega
    have hq6 : (Dat.l L6).bulk ≤ 1099511627776 := by simp only [Dat.bulk, bulkAll] at hb ⊢; omega
    have hn6 : n6 ≤ 1099511627776 := by have h1 := hc6.out; simp only [Dat.bulk, bulkAll] at hb; omega
    go_enter Try.func5, Try.ntmps5
    obtain ⟨x0, x1, x2, x3, x4, x5, x6⟩ := (X.out.1.box (g := W.heap.size) (cs := [.int .i64 f0, .bool f1, .slice A2 n2 c2, .int .i64 f3, .slice A4 n4 c4, .int .i64 f5, .slice A6 n6 c6]) (by repeat (first | exact List.mem_cons_self | refine List.mem_cons_of_mem _ ?_))).c7
    go_wp2_with fail
    refine (szLink f0 f1 L2 A2 n2 c2 f3 L4 A4 n4 c4 f5 L6 A6 n6 c6 (1048576) _ (by omega) (by omega) (X.out.lies (d := .l L2) (cs := [.slice A2 n2 c2]) (by repeat (first | exact List.mem_cons_self | refine List.mem_cons_of_mem _ ?_))) ht2 hm2 (X.out.lies (d := .l L4) (cs := [.slice A4 n4 c4]) (by repeat (first | exact List.mem_cons_self | refine List.mem_cons_of_mem _ ?_))) ht4 hm4 (X.out.lies (d := .l L6) (cs := [.slice A6 n6 c6]) (by repeat (first | exact List.mem_cons_self | refine List.mem_cons_of_mem _ ?_))) ht6 hm6).mono ?_
    rintro e w1 ⟨rfl, hb⟩
    rw [HR.out]
    replace X := Lib.hid (X.out.below hb)
    clear hb
    clear x0 x1 x2 x3 x4 x5 x6
    obtain ⟨x0, x1, x2, x3, x4, x5, x6⟩ := (X.out.1.box (g := W.heap.size) (cs := [.int .i64 f0, .bool f1, .slice A2 n2 c2, .int .i64 f3, .slice A4 n4 c4, .int .i64 f5, .slice A6 n6 c6]) (by repeat (first | exact List.mem_cons_self | refine List.mem_cons_of_mem _ ?_))).c7
    go_wp2_with fail
    refine (toLink f0 f1 L2 A2 n2 c2 f3 L4 A4 n4 c4 f5 L6 A6 n6 c6 _ (X.out.lies (d := .l L2) (cs := [.slice A2 n2 c2]) (by repeat (first | exact List.mem_cons_self | refine List.mem_cons_of_mem _ ?_))) ht2 hq2 (X.out.lies (d := .l L4) (cs := [.slice A4 n4 c4]) (by repeat (first | exact List.mem_cons_self | refine List.mem_cons_of_mem _ ?_))) ht4 hq4 (X.out.lies (d := .l L6) (cs := [.slice A6 n6 c6]) (by repeat (first | exact List.mem_cons_self | refine List.mem_cons_of_mem _ ?_))) ht6 hq6).mono ?_
    rintro e w2 ⟨Bt2, kt2, Bt4, kt4, Bt6, kt6, a1, a2, rfl, hO2, hO4, hO6, -, -, -, hb⟩
    replace X := Lib.hid ((((X.out.below hb).lie hO2.lies).lie hO4.lies).lie hO6.lies)
    clear hb hO2 hO4 hO6
    clear x0 x1 x2 x3 x4 x5 x6
    go_wp2_with fail
    refine (specFind f0 f1 L2 Bt2 n2 kt2 f3 L4 Bt4 n4 kt4 f5 L6 Bt6 n6 kt6 i _ (X.out.lies (d := .l L2) (cs := [.slice Bt2 n2 kt2]) (by repeat (first | exact List.mem_cons_self | refine List.mem_cons_of_mem _ ?_))) ht2 hn2).mono ?_
    rintro e w3 ⟨rfl, hb⟩
    rw [HV.out]
    replace X := Lib.hid (X.out.below hb)
    clear hb
    obtain ⟨x0, x1, x2, x3, x4, x5, x6⟩ := (X.out.1.box (g := W.heap.size) (cs := [.int .i64 f0, .bool f1, .slice A2 n2 c2, .int .i64 f3, .slice A4 n4 c4, .int .i64 f5, .slice A6 n6 c6]) (by repeat (first | exact List.mem_cons_self | refine List.mem_cons_of_mem _ ?_))).c7
    go_wp2_with fail
    refine (toLink f0 f1 L2 A2 n2 c2 f3 L4 A4 n4 c4 f5 L6 A6 n6 c6 _ (X.out.lies (d := .l L2) (cs := [.slice A2 n2 c2]) (by repeat (first | exact List.mem_cons_self | refine List.mem_cons_of_mem _ ?_))) ht2 hq2 (X.out.lies (d := .l L4) (cs := [.slice A4 n4 c4]) (by repeat (first | exact List.mem_cons_self | refine List.mem_cons_of_mem _ ?_))) ht4 hq4 (X.out.lies (d := .l L6) (cs := [.slice A6 n6 c6]) (by repeat (first | exact List.mem_cons_self | refine List.mem_cons_of_mem _ ?_))) ht6 hq6).mono ?_
    rintro e w4 ⟨Bx2, kx2, Bx4, kx4, Bx6, kx6, a1, a2, rfl, hO2, hO4, hO6, -, -, -, hb⟩
    replace X := Lib.hid ((((X.out.below hb).lie hO2.lies).lie hO4.lies).lie hO6.lies)
    clear hb hO2 hO4 hO6
    clear x0 x1 x2 x3 x4 x5 x6
    replace X := Lib.hid (X.out.push #[.int .i64 f0, .bool f1, .slice Bx2 n2 kx2, .int .i64 f3, .slice Bx4 n4 kx4, .int .i64 f5, .slice Bx6 n6 kx6] 27)
    obtain ⟨p0, p1, p2, p3, p4, p5, p6⟩ := (X.out.1.box (g := w4.heap.size) (cs := [.int .i64 f0, .bool f1, .slice Bx2 n2 kx2, .int .i64 f3, .slice Bx4 n4 kx4, .int .i64 f5, .slice Bx6 n6 kx6]) (by repeat (first | exact List.mem_cons_self | refine List.mem_cons_of_mem _ ?_))).c7
    go_wp2_with fail
    refine (implFind f0 f1 L2 Bx2 n2 kx2 f3 L4 Bx4 n4 kx4 f5 L6 Bx6 n6 kx6 i _ (X.out.lies (d := .l L2) (cs := [.slice Bx2 n2 kx2]) (by repeat (first | exact List.mem_cons_self | refine List.mem_cons_of_mem _ ?_))) ht2 hn2).mono ?_
    rintro e w5 ⟨rfl, hb⟩
    rw [HV.out]
    replace X := Lib.hid (X.out.below hb)
    clear hb
    clear p0 p1 p2 p3 p4 p5 p6
    obtain ⟨p0, p1, p2, p3, p4, p5, p6⟩ := (X.out.1.box (g := w4.heap.size) (cs := [.int .i64 f0, .bool f1, .slice Bx2 n2 kx2, .int .i64 f3, .slice Bx4 n4 kx4, .int .i64 f5, .slice Bx6 n6 kx6]) (by repeat (first | exact List.mem_cons_self | refine List.mem_cons_of_mem _ ?_))).c7
    obtain ⟨x0, x1, x2, x3, x4, x5, x6⟩ := (X.out.1.box (g := W.heap.size) (cs := [.int .i64 f0, .bool f1, .slice A2 n2 c2, .int .i64 f3, .slice A4 n4 c4, .int .i64 f5, .slice A6 n6 c6]) (by repeat (first | exact List.mem_cons_self | refine List.mem_cons_of_mem _ ?_))).c7
    go_wp2_with fail
    replace X := Lib.hid X.out.drew
    go_region_held3 (fun w' => (w'.cell? ⟨w4.heap.size, 0, none⟩ = some (.int .i64 f0) ∧ w'.cell? ⟨w4.heap.size, 1, none⟩ = some (.bool f1) ∧ w'.cell? ⟨w4.heap.size, 2, none⟩ = some (.slice Bx2 n2 kx2) ∧ w'.cell? ⟨w4.heap.size, 3, none⟩ = some (.int .i64 f3) ∧ w'.cell? ⟨w4.heap.size, 4, none⟩ = some (.slice Bx4 n4 kx4) ∧ w'.cell? ⟨w4.heap.size, 5, none⟩ = some (.int .i64 f5) ∧ w'.cell? ⟨w4.heap.size, 6, none⟩ = some (.slice Bx6 n6 kx6)) ∧ (w'.cell? ⟨W.heap.size, 0, none⟩ = some (.int .i64 f0) ∧ w'.cell? ⟨W.heap.size, 1, none⟩ = some (.bool f1) ∧ w'.cell? ⟨W.heap.size, 2, none⟩ = some (.slice A2 n2 c2) ∧ w'.cell? ⟨W.heap.size, 3, none⟩ = some (.int .i64 f3) ∧ w'.cell? ⟨W.heap.size, 4, none⟩ = some (.slice A4 n4 c4) ∧ w'.cell? ⟨W.heap.size, 5, none⟩ = some (.int .i64 f5) ∧ w'.cell? ⟨W.heap.size, 6, none⟩ = some (.slice A6 n6 c6)))
      (first | with_reducible exact ⟨(X.out.c7 (b := w4.heap.size) (v0 := .int .i64 f0) (v1 := .bool f1) (v2 := .slice Bx2 n2 kx2) (v3 := .int .i64 f3) (v4 := .slice Bx4 n4 kx4) (v5 := .int .i64 f5) (v6 := .slice Bx6 n6 kx6) (by repeat (first | exact List.mem_cons_self | refine List.mem_cons_of_mem _ ?_))), (X.out.c7 (b := W.heap.size) (v0 := .int .i64 f0) (v1 := .bool f1) (v2 := .slice A2 n2 c2) (v3 := .int .i64 f3) (v4 := .slice A4 n4 c4) (v5 := .int .i64 f5) (v6 := .slice A6 n6 c6) (by repeat (first | exact List.mem_cons_self | refine List.mem_cons_of_mem _ ?_)))⟩ | go_keep)
      (first
      | (go_at_call 31; (with_reducible refine (toLink f0 f1 L2 A2 n2 c2 f3 L4 A4 n4 c4 f5 L6 A6 n6 c6 _ (X.out.lies (d := .l L2) (cs := [.slice A2 n2 c2]) (by repeat (first | exact List.mem_cons_self | refine List.mem_cons_of_mem _ ?_))) ht2 hq2 (X.out.lies (d := .l L4) (cs := [.slice A4 n4 c4]) (by repeat (first | exact List.mem_cons_self | refine List.mem_cons_of_mem _ ?_))) ht4 hq4 (X.out.lies (d := .l L6) (cs := [.slice A6 n6 c6]) (by repeat (first | exact List.mem_cons_self | refine List.mem_cons_of_mem _ ?_))) ht6 hq6).mono ?_); rintro e u5 ⟨Bu2, ku2, Bu4, ku4, Bu6, ku6, a1, a2, rfl, hO2, hO4, hO6, -, -, -, hb5⟩; replace X := Lib.hid ((((X.out.below hb5).lie hO2.lies).lie hO4.lies).lie hO6.lies); clear hb5 hO2 hO4 hO6)
      | (go_at_call 26; (with_reducible refine (eqLink f0 f1 L2 Bx2 n2 kx2 f3 L4 Bx4 n4 kx4 f5 L6 Bx6 n6 kx6 Bu2 ku2 Bu4 ku4 Bu6 ku6 _ (X.out.lies (d := .l L2) (cs := [.slice Bx2 n2 kx2]) (by repeat (first | exact List.mem_cons_self | refine List.mem_cons_of_mem _ ?_))) (X.out.lies (d := .l L2) (cs := [.slice Bu2 n2 ku2]) (by repeat (first | exact List.mem_cons_self | refine List.mem_cons_of_mem _ ?_))) ht2 hm2 (X.out.lies (d := .l L4) (cs := [.slice Bx4 n4 kx4]) (by repeat (first | exact List.mem_cons_self | refine List.mem_cons_of_mem _ ?_))) (X.out.lies (d := .l L4) (cs := [.slice Bu4 n4 ku4]) (by repeat (first | exact List.mem_cons_self | refine List.mem_cons_of_mem _ ?_))) ht4 hm4 (X.out.lies (d := .l L6) (cs := [.slice Bx6 n6 kx6]) (by repeat (first | exact List.mem_cons_self | refine List.mem_cons_of_mem _ ?_))) (X.out.lies (d := .l L6) (cs := [.slice Bu6 n6 ku6]) (by repeat (first | exact List.mem_cons_self | refine List.mem_cons_of_mem _ ?_))) ht6 hm6).mono ?_); rintro e u6 ⟨rfl, hb5⟩; replace X := Lib.hid (X.out.below hb5); clear hb5))
    all_goals (
      try clear p0 p1 p2 p3 p4 p5 p6 x0 x1 x2 x3 x4 x5 x6
      go_wp2_with fail
      go_ret
      exact GivesBool.ret X.out.low)
set_option maxRecDepth 100000 in
set_option maxHeartbeats 16000000 in
theorem law_PosOf (f0 : Int) (f1 : Bool) (L2 : List Dat) (A2 : Option Addr) (n2 c2 : Nat) (f3 : Int) (L4 : List Dat) (A4 : Option Addr) (n4 c4 : Nat) (f5 : Int) (L6 : List Dat) (A6 : Option Addr) (n6 c6 : Nat) (i : Int) (W : World) (hl2 : Lies W (.l L2) [.slice A2 n2 c2]) (ht2 : ∀ x ∈ L2, Has tyExport x) (hm2 : n2 ≤ 9223372036854775807) (hl4 : Lies W (.l L4) [.slice A4 n4 c4]) (ht4 : ∀ x ∈ L4, Has tyQuestion x) (hm4 : n4 ≤ 9223372036854775807) (hl6 : Lies W (.l L6) [.slice A6 n6 c6]) (ht6 : ∀ x ∈ L6, Has tyQuestion x) (hm6 : n6 ≤ 9223372036854775807) :
    Calls Try.prog 6 #[.agg #[.int .i64 f0, .bool f1, .slice A2 n2 c2, .int .i64 f3, .slice A4 n4 c4, .int .i64 f5, .slice A6 n6 c6], .int .i64 i] W (GivesBool true W) := by
  have X := Lib.hid ((((St.start W).lie hl2).lie hl4).lie hl6)
  have hc2 := Lib.hid hl2.count
  have hc4 := Lib.hid hl4.count
  have hc6 := Lib.hid hl6.count
  clear hl2 hl4 hl6
  replace X := Lib.hid (X.out.push #[.int .i64 f0, .bool f1, .slice A2 n2 c2, .int .i64 f3, .slice A4 n4 c4, .int .i64 f5, .slice A6 n6 c6] 41)
  obtain ⟨v, hv⟩ : ∃ v, look (isF 1 i) 0 0 L2 = v := ⟨_, rfl⟩
  have HV := Lib.hid hv
  clear hv
  rcases leftD_cases (.r [.i f0, .b f1, .l L2, .i f3, .l L4, .i f5, .l L6] : Dat) 1048576 with hbig | ⟨r, hr, hr0, hr1, hb⟩
  case inl =>
    have HBIG := Lib.hid hbig
    clear hbig
    go_enter Try.func6, Try.ntmps6
    obtain ⟨x0, x1, x2, x3, x4, x5, x6⟩ := (X.out.1.box (g := W.heap.size) (cs := [.int .i64 f0, .bool f1, .slice A2 n2 c2, .int .i64 f3, .slice A4 n4 c4, .int .i64 f5, .slice A6 n6 c6]) (by repeat (first | exact List.mem_cons_self | refine List.mem_cons_of_mem _ ?_))).c7
    go_wp2_with fail
    refine (szLink f0 f1 L2 A2 n2 c2 f3 L4 A4 n4 c4 f5 L6 A6 n6 c6 (1048576) _ (by omega) (by omega) (X.out.lies (d := .l L2) (cs := [.slice A2 n2 c2]) (by repeat (first | exact List.mem_cons_self | refine List.mem_cons_of_mem _ ?_))) ht2 hm2 (X.out.lies (d := .l L4) (cs := [.slice A4 n4 c4]) (by repeat (first | exact List.mem_cons_self | refine List.mem_cons_of_mem _ ?_))) ht4 hm4 (X.out.lies (d := .l L6) (cs := [.slice A6 n6 c6]) (by repeat (first | exact List.mem_cons_self | refine List.mem_cons_of_mem _ ?_))) ht6 hm6).mono ?_
    rintro e w1 ⟨rfl, hb⟩
    rw [HBIG.out]
    replace X := Lib.hid (X.out.below hb)
    clear hb
    clear x0 x1 x2 x3 x4 x5 x6
    go_wp2_with fail
    go_ret
    exact GivesBool.ret X.out.low
  case inr =>
    have HR := Lib.hid hr
    clear hr
    have hq2 : (Dat.l L2).bulk ≤ 1099511627776 := by simp only [Dat.bulk, bulkAll] at hb ⊢; omega
    have hn2 : n2 ≤ 1099511627776 := by have h1 := hc2.out; simp only [Dat.bulk, bulkAll] at hb; omega
    have hq4 : (Dat.l L4).bulk ≤ 1099511627776 := by simp only [Dat.bulk, bulkAll] at hb ⊢; omega
    have hn4 : n4 ≤ 1099511627776 := by have h1 := hc4.out; simp only [Dat.bulk, bulkAll] at hb; omega
    have hq6 : (Dat.l L6).bulk ≤ 1099511627776 := by simp only [Dat.bulk, bulkAll] at hb ⊢; omega
    have hn6 : n6 ≤ 1099511627776 := by have h1 := hc6.out; simp only [Dat.bulk, bulkAll] at hb; omega
    go_enter Try.func6, Try.ntmps6
    obtain ⟨x0, x1, x2, x3, x4, x5, x6⟩ := (X.out.1.box (g := W.heap.size) (cs := [.int .i64 f0, .bool f1, .slice A2 n2 c2, .int .i64 f3, .slice A4 n4 c4, .int .i64 f5, .slice A6 n6 c6]) (by repeat (first | exact List.mem_cons_self | refine List.mem_cons_of_mem _ ?_))).c7
    go_wp2_with fail
    refine (szLink f0 f1 L2 A2 n2 c2 f3 L4 A4 n4 c4 f5 L6 A6 n6 c6 (1048576) _ (by omega) (by omega) (X.out.lies (d := .l L2) (cs := [.slice A2 n2 c2]) (by repeat (first | exact List.mem_cons_self | refine List.mem_cons_of_mem _ ?_))) ht2 hm2 (X.out.lies (d := .l L4) (cs := [.slice A4 n4 c4]) (by repeat (first | exact List.mem_cons_self | refine List.mem_cons_of_mem _ ?_))) ht4 hm4 (X.out.lies (d := .l L6) (cs := [.slice A6 n6 c6]) (by repeat (first | exact List.mem_cons_self | refine List.mem_cons_of_mem _ ?_))) ht6 hm6).mono ?_
    rintro e w1 ⟨rfl, hb⟩
    rw [HR.out]
    replace X := Lib.hid (X.out.below hb)
    clear hb
    clear x0 x1 x2 x3 x4 x5 x6
    obtain ⟨x0, x1, x2, x3, x4, x5, x6⟩ := (X.out.1.box (g := W.heap.size) (cs := [.int .i64 f0, .bool f1, .slice A2 n2 c2, .int .i64 f3, .slice A4 n4 c4, .int .i64 f5, .slice A6 n6 c6]) (by repeat (first | exact List.mem_cons_self | refine List.mem_cons_of_mem _ ?_))).c7
    go_wp2_with fail
    refine (toLink f0 f1 L2 A2 n2 c2 f3 L4 A4 n4 c4 f5 L6 A6 n6 c6 _ (X.out.lies (d := .l L2) (cs := [.slice A2 n2 c2]) (by repeat (first | exact List.mem_cons_self | refine List.mem_cons_of_mem _ ?_))) ht2 hq2 (X.out.lies (d := .l L4) (cs := [.slice A4 n4 c4]) (by repeat (first | exact List.mem_cons_self | refine List.mem_cons_of_mem _ ?_))) ht4 hq4 (X.out.lies (d := .l L6) (cs := [.slice A6 n6 c6]) (by repeat (first | exact List.mem_cons_self | refine List.mem_cons_of_mem _ ?_))) ht6 hq6).mono ?_
    rintro e w2 ⟨Bt2, kt2, Bt4, kt4, Bt6, kt6, a1, a2, rfl, hO2, hO4, hO6, -, -, -, hb⟩
    replace X := Lib.hid ((((X.out.below hb).lie hO2.lies).lie hO4.lies).lie hO6.lies)
    clear hb hO2 hO4 hO6
    clear x0 x1 x2 x3 x4 x5 x6
    go_wp2_with fail
    refine (specPosOf f0 f1 L2 Bt2 n2 kt2 f3 L4 Bt4 n4 kt4 f5 L6 Bt6 n6 kt6 i _ (X.out.lies (d := .l L2) (cs := [.slice Bt2 n2 kt2]) (by repeat (first | exact List.mem_cons_self | refine List.mem_cons_of_mem _ ?_))) ht2 hn2).mono ?_
    rintro e w3 ⟨rfl, hb⟩
    rw [HV.out]
    replace X := Lib.hid (X.out.below hb)
    clear hb
    obtain ⟨x0, x1, x2, x3, x4, x5, x6⟩ := (X.out.1.box (g := W.heap.size) (cs := [.int .i64 f0, .bool f1, .slice A2 n2 c2, .int .i64 f3, .slice A4 n4 c4, .int .i64 f5, .slice A6 n6 c6]) (by repeat (first | exact List.mem_cons_self | refine List.mem_cons_of_mem _ ?_))).c7
    go_wp2_with fail
    refine (toLink f0 f1 L2 A2 n2 c2 f3 L4 A4 n4 c4 f5 L6 A6 n6 c6 _ (X.out.lies (d := .l L2) (cs := [.slice A2 n2 c2]) (by repeat (first | exact List.mem_cons_self | refine List.mem_cons_of_mem _ ?_))) ht2 hq2 (X.out.lies (d := .l L4) (cs := [.slice A4 n4 c4]) (by repeat (first | exact List.mem_cons_self | refine List.mem_cons_of_mem _ ?_))) ht4 hq4 (X.out.lies (d := .l L6) (cs := [.slice A6 n6 c6]) (by repeat (first | exact List.mem_cons_self | refine List.mem_cons_of_mem _ ?_))) ht6 hq6).mono ?_
    rintro e w4 ⟨Bx2, kx2, Bx4, kx4, Bx6, kx6, a1, a2, rfl, hO2, hO4, hO6, -, -, -, hb⟩
    replace X := Lib.hid ((((X.out.below hb).lie hO2.lies).lie hO4.lies).lie hO6.lies)
    clear hb hO2 hO4 hO6
    clear x0 x1 x2 x3 x4 x5 x6
    replace X := Lib.hid (X.out.push #[.int .i64 f0, .bool f1, .slice Bx2 n2 kx2, .int .i64 f3, .slice Bx4 n4 kx4, .int .i64 f5, .slice Bx6 n6 kx6] 27)
    obtain ⟨p0, p1, p2, p3, p4, p5, p6⟩ := (X.out.1.box (g := w4.heap.size) (cs := [.int .i64 f0, .bool f1, .slice Bx2 n2 kx2, .int .i64 f3, .slice Bx4 n4 kx4, .int .i64 f5, .slice Bx6 n6 kx6]) (by repeat (first | exact List.mem_cons_self | refine List.mem_cons_of_mem _ ?_))).c7
    go_wp2_with fail
    refine (implPosOf f0 f1 L2 Bx2 n2 kx2 f3 L4 Bx4 n4 kx4 f5 L6 Bx6 n6 kx6 i _ (X.out.lies (d := .l L2) (cs := [.slice Bx2 n2 kx2]) (by repeat (first | exact List.mem_cons_self | refine List.mem_cons_of_mem _ ?_))) ht2 hn2).mono ?_
    rintro e w5 ⟨rfl, hb⟩
    rw [HV.out]
    replace X := Lib.hid (X.out.below hb)
    clear hb
    clear p0 p1 p2 p3 p4 p5 p6
    obtain ⟨p0, p1, p2, p3, p4, p5, p6⟩ := (X.out.1.box (g := w4.heap.size) (cs := [.int .i64 f0, .bool f1, .slice Bx2 n2 kx2, .int .i64 f3, .slice Bx4 n4 kx4, .int .i64 f5, .slice Bx6 n6 kx6]) (by repeat (first | exact List.mem_cons_self | refine List.mem_cons_of_mem _ ?_))).c7
    obtain ⟨x0, x1, x2, x3, x4, x5, x6⟩ := (X.out.1.box (g := W.heap.size) (cs := [.int .i64 f0, .bool f1, .slice A2 n2 c2, .int .i64 f3, .slice A4 n4 c4, .int .i64 f5, .slice A6 n6 c6]) (by repeat (first | exact List.mem_cons_self | refine List.mem_cons_of_mem _ ?_))).c7
    go_wp2_with fail
    replace X := Lib.hid X.out.drew
    go_region_held3 (fun w' => (w'.cell? ⟨w4.heap.size, 0, none⟩ = some (.int .i64 f0) ∧ w'.cell? ⟨w4.heap.size, 1, none⟩ = some (.bool f1) ∧ w'.cell? ⟨w4.heap.size, 2, none⟩ = some (.slice Bx2 n2 kx2) ∧ w'.cell? ⟨w4.heap.size, 3, none⟩ = some (.int .i64 f3) ∧ w'.cell? ⟨w4.heap.size, 4, none⟩ = some (.slice Bx4 n4 kx4) ∧ w'.cell? ⟨w4.heap.size, 5, none⟩ = some (.int .i64 f5) ∧ w'.cell? ⟨w4.heap.size, 6, none⟩ = some (.slice Bx6 n6 kx6)) ∧ (w'.cell? ⟨W.heap.size, 0, none⟩ = some (.int .i64 f0) ∧ w'.cell? ⟨W.heap.size, 1, none⟩ = some (.bool f1) ∧ w'.cell? ⟨W.heap.size, 2, none⟩ = some (.slice A2 n2 c2) ∧ w'.cell? ⟨W.heap.size, 3, none⟩ = some (.int .i64 f3) ∧ w'.cell? ⟨W.heap.size, 4, none⟩ = some (.slice A4 n4 c4) ∧ w'.cell? ⟨W.heap.size, 5, none⟩ = some (.int .i64 f5) ∧ w'.cell? ⟨W.heap.size, 6, none⟩ = some (.slice A6 n6 c6)))
      (first | with_reducible exact ⟨(X.out.c7 (b := w4.heap.size) (v0 := .int .i64 f0) (v1 := .bool f1) (v2 := .slice Bx2 n2 kx2) (v3 := .int .i64 f3) (v4 := .slice Bx4 n4 kx4) (v5 := .int .i64 f5) (v6 := .slice Bx6 n6 kx6) (by repeat (first | exact List.mem_cons_self | refine List.mem_cons_of_mem _ ?_))), (X.out.c7 (b := W.heap.size) (v0 := .int .i64 f0) (v1 := .bool f1) (v2 := .slice A2 n2 c2) (v3 := .int .i64 f3) (v4 := .slice A4 n4 c4) (v5 := .int .i64 f5) (v6 := .slice A6 n6 c6) (by repeat (first | exact List.mem_cons_self | refine List.mem_cons_of_mem _ ?_)))⟩ | go_keep)
      (first
      | (go_at_call 31; (with_reducible refine (toLink f0 f1 L2 A2 n2 c2 f3 L4 A4 n4 c4 f5 L6 A6 n6 c6 _ (X.out.lies (d := .l L2) (cs := [.slice A2 n2 c2]) (by repeat (first | exact List.mem_cons_self | refine List.mem_cons_of_mem _ ?_))) ht2 hq2 (X.out.lies (d := .l L4) (cs := [.slice A4 n4 c4]) (by repeat (first | exact List.mem_cons_self | refine List.mem_cons_of_mem _ ?_))) ht4 hq4 (X.out.lies (d := .l L6) (cs := [.slice A6 n6 c6]) (by repeat (first | exact List.mem_cons_self | refine List.mem_cons_of_mem _ ?_))) ht6 hq6).mono ?_); rintro e u5 ⟨Bu2, ku2, Bu4, ku4, Bu6, ku6, a1, a2, rfl, hO2, hO4, hO6, -, -, -, hb5⟩; replace X := Lib.hid ((((X.out.below hb5).lie hO2.lies).lie hO4.lies).lie hO6.lies); clear hb5 hO2 hO4 hO6)
      | (go_at_call 26; (with_reducible refine (eqLink f0 f1 L2 Bx2 n2 kx2 f3 L4 Bx4 n4 kx4 f5 L6 Bx6 n6 kx6 Bu2 ku2 Bu4 ku4 Bu6 ku6 _ (X.out.lies (d := .l L2) (cs := [.slice Bx2 n2 kx2]) (by repeat (first | exact List.mem_cons_self | refine List.mem_cons_of_mem _ ?_))) (X.out.lies (d := .l L2) (cs := [.slice Bu2 n2 ku2]) (by repeat (first | exact List.mem_cons_self | refine List.mem_cons_of_mem _ ?_))) ht2 hm2 (X.out.lies (d := .l L4) (cs := [.slice Bx4 n4 kx4]) (by repeat (first | exact List.mem_cons_self | refine List.mem_cons_of_mem _ ?_))) (X.out.lies (d := .l L4) (cs := [.slice Bu4 n4 ku4]) (by repeat (first | exact List.mem_cons_self | refine List.mem_cons_of_mem _ ?_))) ht4 hm4 (X.out.lies (d := .l L6) (cs := [.slice Bx6 n6 kx6]) (by repeat (first | exact List.mem_cons_self | refine List.mem_cons_of_mem _ ?_))) (X.out.lies (d := .l L6) (cs := [.slice Bu6 n6 ku6]) (by repeat (first | exact List.mem_cons_self | refine List.mem_cons_of_mem _ ?_))) ht6 hm6).mono ?_); rintro e u6 ⟨rfl, hb5⟩; replace X := Lib.hid (X.out.below hb5); clear hb5))
    all_goals (
      try clear p0 p1 p2 p3 p4 p5 p6 x0 x1 x2 x3 x4 x5 x6
      go_wp2_with fail
      go_ret
      exact GivesBool.ret X.out.low)
end Go.Proofs.Ytdedioghljkflaa
