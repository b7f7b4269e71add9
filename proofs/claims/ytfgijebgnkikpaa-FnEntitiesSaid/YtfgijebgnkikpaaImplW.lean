/- The program's IsValue and IsNumber. -/
import Derived.Test.YtfgijebgnkikpaaAsk
namespace Go.Proofs.Ytfgijebgnkikpaa
open Go.RowKit
theorem implIsVal (v : V) (e : Int) (w : World) : Calls Try.prog 116 #[.agg #[.int .i64 v.kind, .int .i64 v.n], .int .i64 e] w (GivesBool (isVal v e) w) := by
  obtain ⟨k, n⟩ := v
  by_cases h0 : k = 0
  · subst h0
    by_cases h1 : 0 ≤ n ∧ n ≤ 999999
    · have hE := Lib.hid (isVal_int n e h1.1 h1.2)
      have H1 := Lib.hid h1
      clear h1
      have a0 := ask_num (.int .i64 n)
      go_enter Try.func116, Try.ntmps116
      go_wp2_with (first
        | ((with_reducible refine (mean_int n _).mono ?_); rintro e w7 ⟨rfl, hb⟩; have HB := Lib.hid hb; clear hb)
        | ((with_reducible refine (inRng_t n _ H1.out.1 H1.out.2).mono ?_); rintro e w' ⟨rfl, rfl⟩))
      go_ret
      exact GivesBool.of hE.out.symm (((Below.refl _ _).alloc (Nat.le_refl _) _).trans (HB.out.mono (by simp)))
    · have hE := Lib.hid (isVal_intn n e h1)
      have H1 := Lib.hid h1
      clear h1
      have a0 := ask_num (.int .i64 n)
      go_enter Try.func116, Try.ntmps116
      go_wp2_with (first
        | ((with_reducible refine (mean_int n _).mono ?_); rintro e w7 ⟨rfl, hb⟩; have HB := Lib.hid hb; clear hb)
        | ((with_reducible refine (inRng_f n _ H1.out).mono ?_); rintro e w' ⟨rfl, rfl⟩))
      go_ret
      exact GivesBool.of hE.out.symm (((Below.refl _ _).alloc (Nat.le_refl _) _).trans (HB.out.mono (by simp)))
  by_cases h1 : k = 1
  · subst h1
    by_cases h1 : 0 ≤ n
    · by_cases h2 : n < e
      · have hE := Lib.hid (isVal_ref n e h1 h2)
        have a0 := ask_num_no _ (show 154 ≠ 90 by decide) (.int .i64 n)
        have a1 := ask_ref (.int .i64 n)
        go_enter Try.func116, Try.ntmps116
        go_wp2_with ((with_reducible refine (mean_ref n _).mono ?_); rintro e w7 ⟨rfl, hb⟩; have HB := Lib.hid hb; clear hb)
        go_ret
        exact GivesBool.of hE.out.symm (((Below.refl _ _).alloc (Nat.le_refl _) _).trans (HB.out.mono (by simp)))
      · have hE := Lib.hid (isVal_refn n e (fun h => h2 h.2))
        have a0 := ask_num_no _ (show 154 ≠ 90 by decide) (.int .i64 n)
        have a1 := ask_ref (.int .i64 n)
        go_enter Try.func116, Try.ntmps116
        go_wp2_with ((with_reducible refine (mean_ref n _).mono ?_); rintro e w7 ⟨rfl, hb⟩; have HB := Lib.hid hb; clear hb)
        go_ret
        exact GivesBool.of ((decide_eq_false (by omega)).trans hE.out.symm) (((Below.refl _ _).alloc (Nat.le_refl _) _).trans (HB.out.mono (by simp)))
    · have hE := Lib.hid (isVal_refn n e (fun h => h1 h.1))
      have a0 := ask_num_no _ (show 154 ≠ 90 by decide) (.int .i64 n)
      have a1 := ask_ref (.int .i64 n)
      go_enter Try.func116, Try.ntmps116
      go_wp2_with ((with_reducible refine (mean_ref n _).mono ?_); rintro e w7 ⟨rfl, hb⟩; have HB := Lib.hid hb; clear hb)
      go_ret
      exact GivesBool.of hE.out.symm (((Below.refl _ _).alloc (Nat.le_refl _) _).trans (HB.out.mono (by simp)))
  by_cases h2 : k = 2
  · subst h2
    have hE := Lib.hid (isVal_two n e)
    by_cases hn : n = 0
    · subst hn
      have a0 := ask_num_no _ (show 156 ≠ 90 by decide) (.agg #[])
      have a1 := ask_ref_no _ (show 156 ≠ 154 by decide) (.agg #[])
      have a2 := ask_bro (.agg #[])
      go_enter Try.func116, Try.ntmps116
      go_wp2_with ((with_reducible refine (mean_bro _).mono ?_); rintro e w7 ⟨rfl, hb⟩; have HB := Lib.hid hb; clear hb)
      go_ret
      have hbw : Below w.heap.size w w7 := ((Below.refl _ _).alloc (Nat.le_refl _) _).trans (HB.out.mono (by simp))
      have hsz := hbw.size
      exact GivesBool.of hE.out.symm (hbw.alloc hsz _)
    · have hz : (n == 0) = false := by simpa using hn
      have HZ := Lib.hid hz
      clear hn hz
      have a0 := ask_num_no _ (show 157 ≠ 90 by decide) (.agg #[.int .i64 2, .int .i64 n])
      have a1 := ask_ref_no _ (show 157 ≠ 154 by decide) (.agg #[.int .i64 2, .int .i64 n])
      have a2 := ask_bro_no _ (show 157 ≠ 156 by decide) (.agg #[.int .i64 2, .int .i64 n])
      go_enter Try.func116, Try.ntmps116
      go_wp2_with ((with_reducible refine (mean_two n _ HZ.out).mono ?_); rintro e w7 ⟨rfl, hb⟩; have HB := Lib.hid hb; clear hb)
      go_ret
      exact GivesBool.of (hE.out.trans HZ.out).symm (((Below.refl _ _).alloc (Nat.le_refl _) _).trans (HB.out.mono (by simp)))
  · have hE := Lib.hid (isVal_other k n e h0 h1 h2)
    have e0 : (k == 0) = false := by simpa using h0
    have e1 : (k == 1) = false := by simpa using h1
    have e2 : (k == 2) = false := by simpa using h2
    have E0 := Lib.hid e0
    have E1 := Lib.hid e1
    have E2 := Lib.hid e2
    clear e0 e1 e2 h0 h1 h2
    have a0 := ask_num_no _ (show 157 ≠ 90 by decide) (.agg #[.int .i64 k, .int .i64 n])
    have a1 := ask_ref_no _ (show 157 ≠ 154 by decide) (.agg #[.int .i64 k, .int .i64 n])
    have a2 := ask_bro_no _ (show 157 ≠ 156 by decide) (.agg #[.int .i64 k, .int .i64 n])
    go_enter Try.func116, Try.ntmps116
    go_wp2_with ((with_reducible refine (mean_unk k n _ E0.out E1.out E2.out).mono ?_); rintro e w7 ⟨rfl, hb⟩; have HB := Lib.hid hb; clear hb)
    go_ret
    exact GivesBool.of hE.out.symm (((Below.refl _ _).alloc (Nat.le_refl _) _).trans (HB.out.mono (by simp)))
end Go.Proofs.Ytfgijebgnkikpaa
