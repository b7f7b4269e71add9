/- The program's IsValue and IsNumber. -/
import Derived.Test.YtiojckpopgpacaaAsk
namespace Go.Proofs.Ytiojckpopgpacaa
open Go.RowKit
theorem implIsVal (v : V) (e : Int) (w : World) : Calls Try.prog 16 #[.agg #[.int .i64 v.kind, .int .i64 v.n], .int .i64 e] w (GivesBool (isVal v e) w) := by
  obtain ⟨k, n⟩ := v
  by_cases h0 : k = 0
  · subst h0
    by_cases h1 : 0 ≤ n ∧ n ≤ 999999
    · have hE := Lib.hid (isVal_int n e h1.1 h1.2)
      have H1 := Lib.hid h1
      clear h1
      have a0 := ask_num (.int .i64 n)
      go_enter Try.func16, Try.ntmps16
      go_wp2_with (first
        | ((with_reducible refine (mean_int n _).mono ?_); rintro e w7 ⟨rfl, hb⟩; have HB := Lib.hid hb; clear hb)
        | ((with_reducible refine (inRng_t n _ H1.out.1 H1.out.2).mono ?_); rintro e w' ⟨rfl, rfl⟩))
      go_ret
      exact GivesBool.of hE.out.symm (((Below.refl _ _).alloc (Nat.le_refl _) _).trans (HB.out.mono (by simp)))
    · have hE := Lib.hid (isVal_intn n e h1)
      have H1 := Lib.hid h1
      clear h1
      have a0 := ask_num (.int .i64 n)
      go_enter Try.func16, Try.ntmps16
      go_wp2_with (first
        | ((with_reducible refine (mean_int n _).mono ?_); rintro e w7 ⟨rfl, hb⟩; have HB := Lib.hid hb; clear hb)
        | ((with_reducible refine (inRng_f n _ H1.out).mono ?_); rintro e w' ⟨rfl, rfl⟩))
      go_ret
      exact GivesBool.of hE.out.symm (((Below.refl _ _).alloc (Nat.le_refl _) _).trans (HB.out.mono (by simp)))
  by_cases h1 : k = 1
  · subst h1
    by_cases h1 : 0 ≤ n
    · by_cases h2 : n < e
      · have hE := Lib.hid (isVal_ref n e h1 h2)
        have a0 := ask_num_no _ (show 61 ≠ 60 by decide) (.int .i64 n)
        have a1 := ask_ref (.int .i64 n)
        go_enter Try.func16, Try.ntmps16
        go_wp2_with ((with_reducible refine (mean_ref n _).mono ?_); rintro e w7 ⟨rfl, hb⟩; have HB := Lib.hid hb; clear hb)
        go_ret
        exact GivesBool.of hE.out.symm (((Below.refl _ _).alloc (Nat.le_refl _) _).trans (HB.out.mono (by simp)))
      · have hE := Lib.hid (isVal_refn n e (fun h => h2 h.2))
        have a0 := ask_num_no _ (show 61 ≠ 60 by decide) (.int .i64 n)
        have a1 := ask_ref (.int .i64 n)
        go_enter Try.func16, Try.ntmps16
        go_wp2_with ((with_reducible refine (mean_ref n _).mono ?_); rintro e w7 ⟨rfl, hb⟩; have HB := Lib.hid hb; clear hb)
        go_ret
        exact GivesBool.of ((decide_eq_false (by omega)).trans hE.out.symm) (((Below.refl _ _).alloc (Nat.le_refl _) _).trans (HB.out.mono (by simp)))
    · have hE := Lib.hid (isVal_refn n e (fun h => h1 h.1))
      have a0 := ask_num_no _ (show 61 ≠ 60 by decide) (.int .i64 n)
      have a1 := ask_ref (.int .i64 n)
      go_enter Try.func16, Try.ntmps16
      go_wp2_with ((with_reducible refine (mean_ref n _).mono ?_); rintro e w7 ⟨rfl, hb⟩; have HB := Lib.hid hb; clear hb)
      go_ret
      exact GivesBool.of hE.out.symm (((Below.refl _ _).alloc (Nat.le_refl _) _).trans (HB.out.mono (by simp)))
  by_cases h2 : k = 2
  · subst h2
    have hE := Lib.hid (isVal_two n e)
    by_cases hn : n = 0
    · subst hn
      have a0 := ask_num_no _ (show 63 ≠ 60 by decide) (.agg #[])
      have a1 := ask_ref_no _ (show 63 ≠ 61 by decide) (.agg #[])
      have a2 := ask_bro (.agg #[])
      go_enter Try.func16, Try.ntmps16
      go_wp2_with ((with_reducible refine (mean_bro _).mono ?_); rintro e w7 ⟨rfl, hb⟩; have HB := Lib.hid hb; clear hb)
      go_ret
      have hbw : Below w.heap.size w w7 := ((Below.refl _ _).alloc (Nat.le_refl _) _).trans (HB.out.mono (by simp))
      have hsz := hbw.size
      exact GivesBool.of hE.out.symm (hbw.alloc hsz _)
    · have hz : (n == 0) = false := by simpa using hn
      have HZ := Lib.hid hz
      clear hn hz
      have a0 := ask_num_no _ (show 73 ≠ 60 by decide) (.agg #[.int .i64 2, .int .i64 n])
      have a1 := ask_ref_no _ (show 73 ≠ 61 by decide) (.agg #[.int .i64 2, .int .i64 n])
      have a2 := ask_bro_no _ (show 73 ≠ 63 by decide) (.agg #[.int .i64 2, .int .i64 n])
      go_enter Try.func16, Try.ntmps16
      go_wp2_with ((with_reducible refine (mean_two n _ HZ.out).mono ?_); rintro e w7 ⟨rfl, hb⟩; have HB := Lib.hid hb; clear hb)
      go_ret
      exact GivesBool.of (hE.out.trans HZ.out).symm (((Below.refl _ _).alloc (Nat.le_refl _) _).trans (HB.out.mono (by simp)))
  · have hE := Lib.hid (isVal_other k n e h0 h1 h2)
    have e0 : (k == 0) = false := by simpa using h0
    have e1 : (k == 1) = false := by simpa using h1
    have e2 : (k == 2) = false := by simpa using h2
    have E0 := Lib.hid e0
    have E1 := Lib.hid e1
    have E2 := Lib.hid e2
    clear e0 e1 e2 h0 h1 h2
    have a0 := ask_num_no _ (show 73 ≠ 60 by decide) (.agg #[.int .i64 k, .int .i64 n])
    have a1 := ask_ref_no _ (show 73 ≠ 61 by decide) (.agg #[.int .i64 k, .int .i64 n])
    have a2 := ask_bro_no _ (show 73 ≠ 63 by decide) (.agg #[.int .i64 k, .int .i64 n])
    go_enter Try.func16, Try.ntmps16
    go_wp2_with ((with_reducible refine (mean_unk k n _ E0.out E1.out E2.out).mono ?_); rintro e w7 ⟨rfl, hb⟩; have HB := Lib.hid hb; clear hb)
    go_ret
    exact GivesBool.of hE.out.symm (((Below.refl _ _).alloc (Nat.le_refl _) _).trans (HB.out.mono (by simp)))
theorem implIsNum (v : V) (n : Int) (w : World) : Calls Try.prog 19 #[.agg #[.int .i64 v.kind, .int .i64 v.n], .int .i64 n] w (GivesBool (isNum v n) w) := by
  obtain ⟨k, m⟩ := v
  have B0 : Hid (∀ o, Below w.heap.size w (w.alloc o)) := Lib.hid fun o => (Below.refl _ _).alloc (Nat.le_refl _) o
  by_cases h0 : k = 0
  · subst h0
    by_cases h1 : m = n
    · subst h1
      have hE := Lib.hid (show true = isNum ⟨0, m⟩ m by simp [isNum])
      have K0 : Hid ((w.alloc (.cells #[.int .i64 0, .int .i64 m] 25)).cell? ⟨w.heap.size, 0, none⟩ = some (.int .i64 0)) := Lib.hid (by simp [go_sem])
      have K1 : Hid ((w.alloc (.cells #[.int .i64 0, .int .i64 m] 25)).cell? ⟨w.heap.size, 1, none⟩ = some (.int .i64 m)) := Lib.hid (by simp [go_sem])
      go_enter Try.func19, Try.ntmps19
      go_wp2_with fail
      go_region_held3 (fun w' => w'.cell? ⟨w.heap.size, 0, none⟩ = some (.int .i64 0) ∧ w'.cell? ⟨w.heap.size, 1, none⟩ = some (.int .i64 m)) (first | go_keep | exact ⟨K0.out, K1.out⟩ | exact ⟨k2.out, k3.out⟩)
        ((go_at_call 45; refine (numVal m _).mono ?_; rintro e w7 ⟨rfl, hb7⟩
          have B7 : Hid (Below (w.heap.size + 1) (w.alloc (.cells #[.int .i64 0, .int .i64 m] 25)) w7) := Lib.hid ((Below.refl (w.heap.size + 1) (w.alloc (.cells #[.int .i64 0, .int .i64 m] 25))).drew.trans (hb7.mono (by simp)))
          have k2 := Lib.hid (cell_lowV B7.out (by omega) K0.out)
          have k3 := Lib.hid (cell_lowV B7.out (by omega) K1.out)
          clear hb7))
      all_goals (
        go_wp2_with fail
        go_ret
        exact GivesBool.of hE.out ((B0.out _).trans (B7.out.mono (by omega))))
    · have hE := Lib.hid (show false = isNum ⟨0, m⟩ n by simp [isNum, h1])
      have h2 : (m == n) = false := by simpa using h1
      clear h1
      have K0 : Hid ((w.alloc (.cells #[.int .i64 0, .int .i64 m] 25)).cell? ⟨w.heap.size, 0, none⟩ = some (.int .i64 0)) := Lib.hid (by simp [go_sem])
      have K1 : Hid ((w.alloc (.cells #[.int .i64 0, .int .i64 m] 25)).cell? ⟨w.heap.size, 1, none⟩ = some (.int .i64 m)) := Lib.hid (by simp [go_sem])
      go_enter Try.func19, Try.ntmps19
      go_wp2_with fail
      go_region_held3 (fun w' => w'.cell? ⟨w.heap.size, 0, none⟩ = some (.int .i64 0) ∧ w'.cell? ⟨w.heap.size, 1, none⟩ = some (.int .i64 m)) (first | go_keep | exact ⟨K0.out, K1.out⟩ | exact ⟨k2.out, k3.out⟩)
        ((go_at_call 45; refine (numVal n _).mono ?_; rintro e w7 ⟨rfl, hb7⟩
          have B7 : Hid (Below (w.heap.size + 1) (w.alloc (.cells #[.int .i64 0, .int .i64 m] 25)) w7) := Lib.hid ((Below.refl (w.heap.size + 1) (w.alloc (.cells #[.int .i64 0, .int .i64 m] 25))).drew.trans (hb7.mono (by simp)))
          have k2 := Lib.hid (cell_lowV B7.out (by omega) K0.out)
          have k3 := Lib.hid (cell_lowV B7.out (by omega) K1.out)
          clear hb7))
      all_goals (
        go_wp2_with fail
        go_ret
        exact GivesBool.of hE.out ((B0.out _).trans (B7.out.mono (by omega))))
  · have hE := Lib.hid (show false = isNum ⟨k, m⟩ n by simp [isNum, h0])
    have h2 : (k == 0) = false := by simpa using h0
    clear h0
    have K0 : Hid ((w.alloc (.cells #[.int .i64 k, .int .i64 m] 25)).cell? ⟨w.heap.size, 0, none⟩ = some (.int .i64 k)) := Lib.hid (by simp [go_sem])
    have K1 : Hid ((w.alloc (.cells #[.int .i64 k, .int .i64 m] 25)).cell? ⟨w.heap.size, 1, none⟩ = some (.int .i64 m)) := Lib.hid (by simp [go_sem])
    go_enter Try.func19, Try.ntmps19
    go_wp2_with fail
    go_region_held3 (fun w' => w'.cell? ⟨w.heap.size, 0, none⟩ = some (.int .i64 k) ∧ w'.cell? ⟨w.heap.size, 1, none⟩ = some (.int .i64 m)) (first | go_keep | exact ⟨K0.out, K1.out⟩ | exact ⟨k2.out, k3.out⟩)
      ((go_at_call 45; refine (numVal n _).mono ?_; rintro e w7 ⟨rfl, hb7⟩
        have B7 : Hid (Below (w.heap.size + 1) (w.alloc (.cells #[.int .i64 k, .int .i64 m] 25)) w7) := Lib.hid ((Below.refl (w.heap.size + 1) (w.alloc (.cells #[.int .i64 k, .int .i64 m] 25))).drew.trans (hb7.mono (by simp)))
        have k2 := Lib.hid (cell_lowV B7.out (by omega) K0.out)
        have k3 := Lib.hid (cell_lowV B7.out (by omega) K1.out)
        clear hb7))
    all_goals (
      go_wp2_with fail
      go_ret
      exact GivesBool.of hE.out ((B0.out _).trans (B7.out.mono (by omega))))
end Go.Proofs.Ytiojckpopgpacaa
