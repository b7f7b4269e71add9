/- Chapter 11: IsWire, both sides. -/
import Derived.Test.YtchofnligbgigaaMsgV
import Derived.LoopTactic
import Derived.Lib.Hide
import Derived.Deep.QuietTactic
import Derived.BigQuiet
import Derived.Deep.RegionWith
import Derived.Handy
namespace Go.Proofs.Ytchofnligbgigaa
open Go.RowKit
set_option linter.unusedVariables false
set_option linter.unusedSimpArgs false
theorem implOne (n : Int) (w : World) : Calls Try.prog 55 #[.int .i64 n] w (SameB (oneB n) w) := by
  go_enter Try.func55, Try.ntmps55
  go_wp2_with fail
  refine (implInR n 1 999999 _).mono ?_
  rintro e w' ⟨rfl, rfl⟩
  go_wp2_with fail
  go_ret
  exact SameB.ret rfl
theorem specOne (n : Int) (w : World) : Calls Try.prog 44 #[.int .i64 n] w (SameB (oneB n) w) := by
  go_enter Try.func44, Try.ntmps44
  go_wp2_with fail
  refine (specInR n 1 999999 _).mono ?_
  rintro e w' ⟨rfl, rfl⟩
  go_wp2_with fail
  go_ret
  exact SameB.ret rfl
theorem implIsW (k n : Int) (w : World) : Calls Try.prog 21 #[.agg #[.int .i64 k, .int .i64 n]] w (GivesBool (wireB k n) w) := by
  have HB0 : Hid (Below w.heap.size w (w.alloc (.cells #[.int .i64 k, .int .i64 n] 26))) := Lib.hid (by go_grown)
  by_cases h0 : k = 0
  · subst h0
    have HN : Hid (inR n 0 999999 = wireB 0 n) := Lib.hid rfl
    go_enter Try.func21, Try.ntmps21
    go_wp2_with (first | ((with_reducible refine (implInR _ _ _ _).mono ?_); rintro e w1 ⟨rfl, rfl⟩) | ((with_reducible refine (implOne _ _).mono ?_); rintro e w1 ⟨rfl, rfl⟩))
    go_ret
    exact GivesBool.of HN.out HB0.out
  have hb0 : (k == 0) = false := by simpa using h0
  by_cases h1 : k = 1
  · subst h1
    have HN : Hid (inR n 1 999999 = wireB 1 n) := Lib.hid rfl
    go_enter Try.func21, Try.ntmps21
    go_wp2_with (first | ((with_reducible refine (implInR _ _ _ _).mono ?_); rintro e w1 ⟨rfl, rfl⟩) | ((with_reducible refine (implOne _ _).mono ?_); rintro e w1 ⟨rfl, rfl⟩))
    go_ret
    exact GivesBool.of HN.out HB0.out
  have hb1 : (k == 1) = false := by simpa using h1
  by_cases h2 : k = 2
  · subst h2
    have HN : Hid (inR n 1 999999 = wireB 2 n) := Lib.hid rfl
    go_enter Try.func21, Try.ntmps21
    go_wp2_with (first | ((with_reducible refine (implInR _ _ _ _).mono ?_); rintro e w1 ⟨rfl, rfl⟩) | ((with_reducible refine (implOne _ _).mono ?_); rintro e w1 ⟨rfl, rfl⟩))
    go_ret
    exact GivesBool.of HN.out HB0.out
  have hb2 : (k == 2) = false := by simpa using h2
  by_cases h3 : k = 3
  · subst h3
    by_cases hn : n = 0
    · subst hn
      have HN : Hid (true = wireB 3 0) := Lib.hid rfl
      go_enter Try.func21, Try.ntmps21
      go_wp2_with fail
      go_ret
      exact GivesBool.of HN.out HB0.out
    · have HN : Hid (false = wireB 3 n) := Lib.hid (by simp [wireB, hn])
      have hbn : (n == 0) = false := by simpa using hn
      go_enter Try.func21, Try.ntmps21
      go_wp2_with fail
      go_ret
      exact GivesBool.of HN.out HB0.out
  have hb3 : (k == 3) = false := by simpa using h3
  have HN : Hid (false = wireB k n) := Lib.hid (by simp [wireB, h0, h1, h2, h3])
  go_enter Try.func21, Try.ntmps21
  go_wp2_with fail
  go_ret
  exact GivesBool.of HN.out HB0.out
theorem specIsW (k n : Int) (w : World) : Calls Try.prog 19 #[.agg #[.int .i64 k, .int .i64 n]] w (GivesBool (wireB k n) w) := by
  have HB0 : Hid (Below w.heap.size w (w.alloc (.cells #[.int .i64 k, .int .i64 n] 26))) := Lib.hid (by go_grown)
  by_cases h0 : k = 0
  · subst h0
    have HN : Hid (inR n 0 999999 = wireB 0 n) := Lib.hid rfl
    go_enter Try.func19, Try.ntmps19
    go_wp2_with (first | ((with_reducible refine (specInR _ _ _ _).mono ?_); rintro e w1 ⟨rfl, rfl⟩))
    go_ret
    exact GivesBool.of HN.out HB0.out
  have hb0 : (k == 0) = false := by simpa using h0
  by_cases h1 : k = 1
  · subst h1
    have HN : Hid (inR n 1 999999 = wireB 1 n) := Lib.hid rfl
    go_enter Try.func19, Try.ntmps19
    go_wp2_with (first | ((with_reducible refine (specInR _ _ _ _).mono ?_); rintro e w1 ⟨rfl, rfl⟩))
    go_ret
    exact GivesBool.of HN.out HB0.out
  have hb1 : (k == 1) = false := by simpa using h1
  by_cases h2 : k = 2
  · subst h2
    have HN : Hid (inR n 1 999999 = wireB 2 n) := Lib.hid rfl
    go_enter Try.func19, Try.ntmps19
    go_wp2_with (first | ((with_reducible refine (specInR _ _ _ _).mono ?_); rintro e w1 ⟨rfl, rfl⟩))
    go_ret
    exact GivesBool.of HN.out HB0.out
  have hb2 : (k == 2) = false := by simpa using h2
  by_cases h3 : k = 3
  · subst h3
    by_cases hn : n = 0
    · subst hn
      have HN : Hid (true = wireB 3 0) := Lib.hid rfl
      go_enter Try.func19, Try.ntmps19
      go_wp2_with fail
      go_ret
      exact GivesBool.of HN.out HB0.out
    · have HN : Hid (false = wireB 3 n) := Lib.hid (by simp [wireB, hn])
      have hbn : (n == 0) = false := by simpa using hn
      go_enter Try.func19, Try.ntmps19
      go_wp2_with fail
      go_ret
      exact GivesBool.of HN.out HB0.out
  have hb3 : (k == 3) = false := by simpa using h3
  have HN : Hid (false = wireB k n) := Lib.hid (by simp [wireB, h0, h1, h2, h3])
  go_enter Try.func19, Try.ntmps19
  go_wp2_with fail
  go_ret
  exact GivesBool.of HN.out HB0.out
end Go.Proofs.Ytchofnligbgigaa
