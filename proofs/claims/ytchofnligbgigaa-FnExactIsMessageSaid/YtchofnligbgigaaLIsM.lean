/- Exact laws of chapter 11: IsMessage. -/
import Derived.Test.YtchofnligbgigaaLawM0
import Derived.Test.YtchofnligbgigaaIsMI
import Derived.Test.YtchofnligbgigaaIsMS
import Derived.Test.YtchofnligbgigaaTyM2
import Derived.Test.YtchofnligbgigaaTyM4
import Derived.Test.YtchofnligbgigaaTyM5
import Derived.Deep.RegionHeld3
import Derived.LoopTactic
import Derived.Lib.Hide
import Derived.Deep.QuietTactic
import Derived.BigQuiet
import Derived.Deep.RegionWith
import Derived.Handy
namespace Go.Proofs.Ytchofnligbgigaa
open Go.RowKit
set_option linter.unusedVariables false
set_option linter.unusedSimpArgs false
set_option maxRecDepth 100000 in
set_option maxHeartbeats 16000000 in
theorem law_IsMessage (f0 : Int) (f1 : Int) (f2 : Int) (f3 : Int) (f4 : ByteArray) (L5 : List Dat) (A5 : Option Addr) (n5 c5 : Nat) (f6_0 : Int) (f6_1 : Int) (f7 : Int) (f8_0 : Int) (f8_1 : Int) (f8_2 : Int) (W : World) (hf4 : f4.size ≤ 9223372036854775807) (hl5 : Lies W (.l L5) [.slice A5 n5 c5]) (ht5 : ∀ x ∈ L5, Has tyWire x) (hm5 : n5 ≤ 9223372036854775807) :
    Calls Try.prog 5 #[.agg #[.int .i64 f0, .int .i64 f1, .int .i64 f2, .int .i64 f3, .string f4, .slice A5 n5 c5, .int .i64 f6_0, .int .i64 f6_1, .int .i64 f7, .int .i64 f8_0, .int .i64 f8_1, .int .i64 f8_2]] W (GivesBool true W) := by
  have X := Lib.hid ((St.start W).lie hl5)
  have hc5 := Lib.hid hl5.count
  clear hl5
  replace X := Lib.hid (X.out.push #[.int .i64 f0, .int .i64 f1, .int .i64 f2, .int .i64 f3, .string f4, .slice A5 n5 c5, .int .i64 f6_0, .int .i64 f6_1, .int .i64 f7, .int .i64 f8_0, .int .i64 f8_1, .int .i64 f8_2] 46)
  obtain ⟨v, hv⟩ : ∃ v, msgB f0 f1 f2 f3 f4 L5 f6_0 f6_1 f7 f8_0 f8_1 f8_2 = v := ⟨_, rfl⟩
  have HV := Lib.hid hv
  clear hv
  rcases leftD_cases (.r [.i f0, .i f1, .i f2, .i f3, .s f4, .l L5, .r [.i f6_0, .i f6_1], .i f7, .r [.i f8_0, .i f8_1, .i f8_2]] : Dat) 1048576 with hbig | ⟨r, hr, hr0, hr1, hb⟩
  case inl =>
    have HBIG := Lib.hid hbig
    clear hbig
    go_enter Try.func5, Try.ntmps5
    obtain ⟨x0, x1, x2, x3, x4, x5, x6, x7, x8, x9, x10, x11⟩ := (X.out.1.box (g := W.heap.size) (cs := [.int .i64 f0, .int .i64 f1, .int .i64 f2, .int .i64 f3, .string f4, .slice A5 n5 c5, .int .i64 f6_0, .int .i64 f6_1, .int .i64 f7, .int .i64 f8_0, .int .i64 f8_1, .int .i64 f8_2]) (by repeat (first | exact List.mem_cons_self | refine List.mem_cons_of_mem _ ?_))).c12
    go_wp2_with fail
    refine (szMessage f0 f1 f2 f3 f4 L5 A5 n5 c5 f6_0 f6_1 f7 f8_0 f8_1 f8_2 (1048576) _ (by omega) (by omega) hf4 (X.out.lies (d := .l L5) (cs := [.slice A5 n5 c5]) (by repeat (first | exact List.mem_cons_self | refine List.mem_cons_of_mem _ ?_))) ht5 hm5).mono ?_
    rintro e w1 ⟨rfl, hb⟩
    rw [HBIG.out]
    replace X := Lib.hid (X.out.below hb)
    clear hb
    clear x0 x1 x2 x3 x4 x5 x6 x7 x8 x9 x10 x11
    go_wp2_with fail
    go_ret
    exact GivesBool.ret X.out.low
  case inr =>
    have hs4 : f4.size ≤ 140737488351232 := by simp only [Dat.bulk, bulkAll] at hb; omega
    have HR := Lib.hid hr
    clear hr
    have hq5 : (Dat.l L5).bulk ≤ 1099511627776 := by simp only [Dat.bulk, bulkAll] at hb ⊢; omega
    have hn5 : n5 ≤ 1099511627776 := by have h1 := hc5.out; simp only [Dat.bulk, bulkAll] at hb; omega
    go_enter Try.func5, Try.ntmps5
    obtain ⟨x0, x1, x2, x3, x4, x5, x6, x7, x8, x9, x10, x11⟩ := (X.out.1.box (g := W.heap.size) (cs := [.int .i64 f0, .int .i64 f1, .int .i64 f2, .int .i64 f3, .string f4, .slice A5 n5 c5, .int .i64 f6_0, .int .i64 f6_1, .int .i64 f7, .int .i64 f8_0, .int .i64 f8_1, .int .i64 f8_2]) (by repeat (first | exact List.mem_cons_self | refine List.mem_cons_of_mem _ ?_))).c12
    go_wp2_with fail
    refine (szMessage f0 f1 f2 f3 f4 L5 A5 n5 c5 f6_0 f6_1 f7 f8_0 f8_1 f8_2 (1048576) _ (by omega) (by omega) hf4 (X.out.lies (d := .l L5) (cs := [.slice A5 n5 c5]) (by repeat (first | exact List.mem_cons_self | refine List.mem_cons_of_mem _ ?_))) ht5 hm5).mono ?_
    rintro e w1 ⟨rfl, hb⟩
    rw [HR.out]
    replace X := Lib.hid (X.out.below hb)
    clear hb
    clear x0 x1 x2 x3 x4 x5 x6 x7 x8 x9 x10 x11
    obtain ⟨x0, x1, x2, x3, x4, x5, x6, x7, x8, x9, x10, x11⟩ := (X.out.1.box (g := W.heap.size) (cs := [.int .i64 f0, .int .i64 f1, .int .i64 f2, .int .i64 f3, .string f4, .slice A5 n5 c5, .int .i64 f6_0, .int .i64 f6_1, .int .i64 f7, .int .i64 f8_0, .int .i64 f8_1, .int .i64 f8_2]) (by repeat (first | exact List.mem_cons_self | refine List.mem_cons_of_mem _ ?_))).c12
    go_wp2_with fail
    refine (toMessage f0 f1 f2 f3 f4 L5 A5 n5 c5 f6_0 f6_1 f7 f8_0 f8_1 f8_2 _ (X.out.lies (d := .l L5) (cs := [.slice A5 n5 c5]) (by repeat (first | exact List.mem_cons_self | refine List.mem_cons_of_mem _ ?_))) ht5 hq5).mono ?_
    rintro e w2 ⟨Bt5, kt5, rfl, hO5, hb⟩
    replace X := Lib.hid ((X.out.below hb).lie hO5.lies)
    clear hb hO5
    clear x0 x1 x2 x3 x4 x5 x6 x7 x8 x9 x10 x11
    go_wp2_with fail
    refine (specIsMsg f0 f1 f2 f3 f4 L5 Bt5 n5 kt5 f6_0 f6_1 f7 f8_0 f8_1 f8_2 _ (X.out.lies (d := .l L5) (cs := [.slice Bt5 n5 kt5]) (by repeat (first | exact List.mem_cons_self | refine List.mem_cons_of_mem _ ?_))) ht5 hn5 hs4).mono ?_
    rintro e w3 ⟨rfl, hb⟩
    rw [HV.out]
    replace X := Lib.hid (X.out.below hb)
    clear hb
    obtain ⟨x0, x1, x2, x3, x4, x5, x6, x7, x8, x9, x10, x11⟩ := (X.out.1.box (g := W.heap.size) (cs := [.int .i64 f0, .int .i64 f1, .int .i64 f2, .int .i64 f3, .string f4, .slice A5 n5 c5, .int .i64 f6_0, .int .i64 f6_1, .int .i64 f7, .int .i64 f8_0, .int .i64 f8_1, .int .i64 f8_2]) (by repeat (first | exact List.mem_cons_self | refine List.mem_cons_of_mem _ ?_))).c12
    go_wp2_with fail
    refine (toMessage f0 f1 f2 f3 f4 L5 A5 n5 c5 f6_0 f6_1 f7 f8_0 f8_1 f8_2 _ (X.out.lies (d := .l L5) (cs := [.slice A5 n5 c5]) (by repeat (first | exact List.mem_cons_self | refine List.mem_cons_of_mem _ ?_))) ht5 hq5).mono ?_
    rintro e w4 ⟨Bx5, kx5, rfl, hO5, hb⟩
    replace X := Lib.hid ((X.out.below hb).lie hO5.lies)
    clear hb hO5
    clear x0 x1 x2 x3 x4 x5 x6 x7 x8 x9 x10 x11
    replace X := Lib.hid (X.out.push #[.int .i64 f0, .int .i64 f1, .int .i64 f2, .int .i64 f3, .string f4, .slice Bx5 n5 kx5, .int .i64 f6_0, .int .i64 f6_1, .int .i64 f7, .int .i64 f8_0, .int .i64 f8_1, .int .i64 f8_2] 30)
    obtain ⟨p0, p1, p2, p3, p4, p5, p6, p7, p8, p9, p10, p11⟩ := (X.out.1.box (g := w4.heap.size) (cs := [.int .i64 f0, .int .i64 f1, .int .i64 f2, .int .i64 f3, .string f4, .slice Bx5 n5 kx5, .int .i64 f6_0, .int .i64 f6_1, .int .i64 f7, .int .i64 f8_0, .int .i64 f8_1, .int .i64 f8_2]) (by repeat (first | exact List.mem_cons_self | refine List.mem_cons_of_mem _ ?_))).c12
    go_wp2_with fail
    refine (implIsMsg f0 f1 f2 f3 f4 L5 Bx5 n5 kx5 f6_0 f6_1 f7 f8_0 f8_1 f8_2 _ (X.out.lies (d := .l L5) (cs := [.slice Bx5 n5 kx5]) (by repeat (first | exact List.mem_cons_self | refine List.mem_cons_of_mem _ ?_))) ht5 hn5).mono ?_
    rintro e w5 ⟨rfl, hb⟩
    rw [HV.out]
    replace X := Lib.hid (X.out.below hb)
    clear hb
    clear p0 p1 p2 p3 p4 p5 p6 p7 p8 p9 p10 p11
    obtain ⟨p0, p1, p2, p3, p4, p5, p6, p7, p8, p9, p10, p11⟩ := (X.out.1.box (g := w4.heap.size) (cs := [.int .i64 f0, .int .i64 f1, .int .i64 f2, .int .i64 f3, .string f4, .slice Bx5 n5 kx5, .int .i64 f6_0, .int .i64 f6_1, .int .i64 f7, .int .i64 f8_0, .int .i64 f8_1, .int .i64 f8_2]) (by repeat (first | exact List.mem_cons_self | refine List.mem_cons_of_mem _ ?_))).c12
    obtain ⟨x0, x1, x2, x3, x4, x5, x6, x7, x8, x9, x10, x11⟩ := (X.out.1.box (g := W.heap.size) (cs := [.int .i64 f0, .int .i64 f1, .int .i64 f2, .int .i64 f3, .string f4, .slice A5 n5 c5, .int .i64 f6_0, .int .i64 f6_1, .int .i64 f7, .int .i64 f8_0, .int .i64 f8_1, .int .i64 f8_2]) (by repeat (first | exact List.mem_cons_self | refine List.mem_cons_of_mem _ ?_))).c12
    go_wp2_with fail
    replace X := Lib.hid X.out.drew
    go_region_held3 (fun w' => (w'.cell? ⟨w4.heap.size, 0, none⟩ = some (.int .i64 f0) ∧ w'.cell? ⟨w4.heap.size, 1, none⟩ = some (.int .i64 f1) ∧ w'.cell? ⟨w4.heap.size, 2, none⟩ = some (.int .i64 f2) ∧ w'.cell? ⟨w4.heap.size, 3, none⟩ = some (.int .i64 f3) ∧ w'.cell? ⟨w4.heap.size, 4, none⟩ = some (.string f4) ∧ w'.cell? ⟨w4.heap.size, 5, none⟩ = some (.slice Bx5 n5 kx5) ∧ w'.cell? ⟨w4.heap.size, 6, none⟩ = some (.int .i64 f6_0) ∧ w'.cell? ⟨w4.heap.size, 7, none⟩ = some (.int .i64 f6_1) ∧ w'.cell? ⟨w4.heap.size, 8, none⟩ = some (.int .i64 f7) ∧ w'.cell? ⟨w4.heap.size, 9, none⟩ = some (.int .i64 f8_0) ∧ w'.cell? ⟨w4.heap.size, 10, none⟩ = some (.int .i64 f8_1) ∧ w'.cell? ⟨w4.heap.size, 11, none⟩ = some (.int .i64 f8_2)) ∧ (w'.cell? ⟨W.heap.size, 0, none⟩ = some (.int .i64 f0) ∧ w'.cell? ⟨W.heap.size, 1, none⟩ = some (.int .i64 f1) ∧ w'.cell? ⟨W.heap.size, 2, none⟩ = some (.int .i64 f2) ∧ w'.cell? ⟨W.heap.size, 3, none⟩ = some (.int .i64 f3) ∧ w'.cell? ⟨W.heap.size, 4, none⟩ = some (.string f4) ∧ w'.cell? ⟨W.heap.size, 5, none⟩ = some (.slice A5 n5 c5) ∧ w'.cell? ⟨W.heap.size, 6, none⟩ = some (.int .i64 f6_0) ∧ w'.cell? ⟨W.heap.size, 7, none⟩ = some (.int .i64 f6_1) ∧ w'.cell? ⟨W.heap.size, 8, none⟩ = some (.int .i64 f7) ∧ w'.cell? ⟨W.heap.size, 9, none⟩ = some (.int .i64 f8_0) ∧ w'.cell? ⟨W.heap.size, 10, none⟩ = some (.int .i64 f8_1) ∧ w'.cell? ⟨W.heap.size, 11, none⟩ = some (.int .i64 f8_2)))
      (first | with_reducible exact ⟨(X.out.c12 (b := w4.heap.size) (v0 := .int .i64 f0) (v1 := .int .i64 f1) (v2 := .int .i64 f2) (v3 := .int .i64 f3) (v4 := .string f4) (v5 := .slice Bx5 n5 kx5) (v6 := .int .i64 f6_0) (v7 := .int .i64 f6_1) (v8 := .int .i64 f7) (v9 := .int .i64 f8_0) (v10 := .int .i64 f8_1) (v11 := .int .i64 f8_2) (by repeat (first | exact List.mem_cons_self | refine List.mem_cons_of_mem _ ?_))), (X.out.c12 (b := W.heap.size) (v0 := .int .i64 f0) (v1 := .int .i64 f1) (v2 := .int .i64 f2) (v3 := .int .i64 f3) (v4 := .string f4) (v5 := .slice A5 n5 c5) (v6 := .int .i64 f6_0) (v7 := .int .i64 f6_1) (v8 := .int .i64 f7) (v9 := .int .i64 f8_0) (v10 := .int .i64 f8_1) (v11 := .int .i64 f8_2) (by repeat (first | exact List.mem_cons_self | refine List.mem_cons_of_mem _ ?_)))⟩ | go_keep)
      (first
      | (go_at_call 23; (with_reducible refine (toMessage f0 f1 f2 f3 f4 L5 A5 n5 c5 f6_0 f6_1 f7 f8_0 f8_1 f8_2 _ (X.out.lies (d := .l L5) (cs := [.slice A5 n5 c5]) (by repeat (first | exact List.mem_cons_self | refine List.mem_cons_of_mem _ ?_))) ht5 hq5).mono ?_); rintro e u5 ⟨Bu5, ku5, rfl, hO5, hb5⟩; replace X := Lib.hid ((X.out.below hb5).lie hO5.lies); clear hb5 hO5)
      | (go_at_call 24; (with_reducible refine (eqMessage f0 f1 f2 f3 f4 L5 Bx5 n5 kx5 f6_0 f6_1 f7 f8_0 f8_1 f8_2 Bu5 ku5 _ (X.out.lies (d := .l L5) (cs := [.slice Bx5 n5 kx5]) (by repeat (first | exact List.mem_cons_self | refine List.mem_cons_of_mem _ ?_))) (X.out.lies (d := .l L5) (cs := [.slice Bu5 n5 ku5]) (by repeat (first | exact List.mem_cons_self | refine List.mem_cons_of_mem _ ?_))) ht5 hm5).mono ?_); rintro e u6 ⟨rfl, hb5⟩; replace X := Lib.hid (X.out.below hb5); clear hb5))
    all_goals (
      try clear p0 p1 p2 p3 p4 p5 p6 p7 p8 p9 p10 p11 x0 x1 x2 x3 x4 x5 x6 x7 x8 x9 x10 x11
      go_wp2_with fail
      go_ret
      exact GivesBool.ret X.out.low)
end Go.Proofs.Ytchofnligbgigaa
