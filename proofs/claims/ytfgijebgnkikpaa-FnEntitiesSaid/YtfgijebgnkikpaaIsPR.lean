/- The reference's l9Promise. -/
import Derived.Test.YtfgijebgnkikpaaIsEI
import Derived.Test.YtfgijebgnkikpaaPendE
import Derived.Test.YtfgijebgnkikpaaLawE0
import Derived.Test.YtfgijebgnkikpaaSpecVS
import Derived.Test.YtfgijebgnkikpaaEntV
import Derived.LoopTactic
import Derived.Lib.Hide
import Derived.Deep.QuietTactic
import Derived.BigQuiet
import Derived.Deep.RegionWith
import Derived.Handy
namespace Go.Proofs.Ytfgijebgnkikpaa
open Go.RowKit
set_option linter.unusedVariables false
set_option linter.unusedSimpArgs false
theorem specAreVD {L : List Dat} {A : Option Addr} {n c : Nat} {e : Int} {w : World} (h : Lies w (.l L) [.slice A n c]) (ht : ∀ x ∈ L, Has tyValue x) (hn : n ≤ 1099511627776) : Calls Try.prog 56 #[.slice A n c, .int .i64 e] w (GivesBool (areVals (vs L) e) w) := specAreV A n c (vs L) e w (h.vals ht) hn
set_option maxRecDepth 100000 in
set_option maxHeartbeats 16000000 in
theorem specProm1 (f0 : Int) (f1 : Int) (L2 : List Dat) (A2 : Option Addr) (n2 c2 : Nat) (f4_0 : Int) (f4_1 : Int) (L5 : List Dat) (A5 : Option Addr) (n5 c5 : Nat) (L6 : List Dat) (A6 : Option Addr) (n6 c6 : Nat) (f7 : Int) (f8 : Int) (f9 : Int) (f10 : Int) (e : Int) (w : World) (hl2 : Lies w (.l L2) [.slice A2 n2 c2]) (ht2 : ∀ x ∈ L2, Has tyValue x) (hn2 : n2 ≤ 1099511627776) (hl5 : Lies w (.l L5) [.slice A5 n5 c5]) (ht5 : ∀ x ∈ L5, Has tySent x) (hn5 : n5 ≤ 1099511627776) (hl6 : Lies w (.l L6) [.slice A6 n6 c6]) (ht6 : ∀ x ∈ L6, Has tyAsker x) (hn6 : n6 ≤ 1099511627776) : Calls Try.prog 57 #[.agg #[.int .i64 f0, .int .i64 f1, .slice A2 n2 c2, .int .i64 1, .int .i64 f4_0, .int .i64 f4_1, .slice A5 n5 c5, .slice A6 n6 c6, .int .i64 f7, .int .i64 f8, .int .i64 f9, .int .i64 f10], .int .i64 e] w (GivesBool (promV 1 ⟨f4_0, f4_1⟩ f7 f8 f9 n5 n6 e && restProm f1 n2) w) := by
  have X := Lib.hid (((((St.start w).lie hl2).lie hl5).lie hl6).push #[.int .i64 f0, .int .i64 f1, .slice A2 n2 c2, .int .i64 1, .int .i64 f4_0, .int .i64 f4_1, .slice A5 n5 c5, .slice A6 n6 c6, .int .i64 f7, .int .i64 f8, .int .i64 f9, .int .i64 f10] 30)
  clear hl2 hl5 hl6
  have Hst : Hid (decide ((1 : Int) ≤ 1 ∧ (1 : Int) ≤ 4) = true) := Lib.hid (by decide)
  by_cases ef4_0 : f4_0 = 0
  · subst ef4_0
    by_cases ef4_1 : f4_1 = 0
    · subst ef4_1
      by_cases ef7 : f7 = 0
      · subst ef7
        by_cases ef8 : f8 = 0
        · subst ef8
          by_cases ef9 : f9 = 0
          · subst ef9
            by_cases h40 : (n5 : Int) ≤ 40
            · skip
              by_cases h0 : (0 : Int) < n5
              · have bn5 : ((n5 : Int) == 0) = false := by rw [beq_eq_false_iff_ne]; omega
                by_cases ef1 : f1 = 0
                · subst ef1
                  by_cases h2 : (0 : Int) < n2
                  · have bn2 : ((n2 : Int) == 0) = false := by rw [beq_eq_false_iff_ne]; omega
                    have HN : Hid (false = (promV 1 ⟨0, 0⟩ 0 0 0 n5 n6 e && restProm 0 n2)) := Lib.hid (by have zn5 : ¬ n5 = 0 := (by omega); have zn2 : ¬ n2 = 0 := (by omega); simp [promV, restProm, nov, nowh, somew, h40, zn5, zn2])
                    go_enter Try.func57, Try.ntmps57
                    go_wp2_with (first
                      | ((with_reducible refine (specInB _ _ _ _).mono ?_); rintro e w1 ⟨rfl, rfl⟩; rw [Hst.out]))
                    go_ret
                    exact GivesBool.of HN.out X.out.low
                  · have bn2 : ((n2 : Int) == 0) = true := by rw [beq_iff_eq]; omega
                    have HN : Hid (true = (promV 1 ⟨0, 0⟩ 0 0 0 n5 n6 e && restProm 0 n2)) := Lib.hid (by have zn5 : ¬ n5 = 0 := (by omega); have zn2 : n2 = 0 := (by omega); simp [promV, restProm, nov, nowh, somew, h40, zn5, zn2])
                    go_enter Try.func57, Try.ntmps57
                    go_wp2_with (first
                      | ((with_reducible refine (specInB _ _ _ _).mono ?_); rintro e w1 ⟨rfl, rfl⟩; rw [Hst.out]))
                    go_ret
                    exact GivesBool.of HN.out X.out.low
                · skip
                  have bf1 : (f1 == 0) = false := by simpa using ef1
                  have df1 : (f1 != 0) = true := by simpa using ef1
                  have HN : Hid (false = (promV 1 ⟨0, 0⟩ 0 0 0 n5 n6 e && restProm f1 n2)) := Lib.hid (by have zn5 : ¬ n5 = 0 := (by omega); simp [promV, restProm, nov, nowh, somew, h40, zn5, ef1])
                  go_enter Try.func57, Try.ntmps57
                  go_wp2_with (first
                    | ((with_reducible refine (specInB _ _ _ _).mono ?_); rintro e w1 ⟨rfl, rfl⟩; rw [Hst.out]))
                  go_ret
                  exact GivesBool.of HN.out X.out.low
              · have bn5 : ((n5 : Int) == 0) = true := by rw [beq_iff_eq]; omega
                by_cases ef1 : f1 = 0
                · subst ef1
                  by_cases h2 : (0 : Int) < n2
                  · have bn2 : ((n2 : Int) == 0) = false := by rw [beq_eq_false_iff_ne]; omega
                    have HN : Hid (false = (promV 1 ⟨0, 0⟩ 0 0 0 n5 n6 e && restProm 0 n2)) := Lib.hid (by have zn5 : n5 = 0 := (by omega); have zn2 : ¬ n2 = 0 := (by omega); simp [promV, restProm, nov, nowh, somew, h40, zn5, zn2])
                    go_enter Try.func57, Try.ntmps57
                    go_wp2_with (first
                      | ((with_reducible refine (specInB _ _ _ _).mono ?_); rintro e w1 ⟨rfl, rfl⟩; rw [Hst.out]))
                    go_ret
                    exact GivesBool.of HN.out X.out.low
                  · have bn2 : ((n2 : Int) == 0) = true := by rw [beq_iff_eq]; omega
                    have HN : Hid (true = (promV 1 ⟨0, 0⟩ 0 0 0 n5 n6 e && restProm 0 n2)) := Lib.hid (by have zn5 : n5 = 0 := (by omega); have zn2 : n2 = 0 := (by omega); simp [promV, restProm, nov, nowh, somew, h40, zn5, zn2])
                    go_enter Try.func57, Try.ntmps57
                    go_wp2_with (first
                      | ((with_reducible refine (specInB _ _ _ _).mono ?_); rintro e w1 ⟨rfl, rfl⟩; rw [Hst.out]))
                    go_ret
                    exact GivesBool.of HN.out X.out.low
                · skip
                  have bf1 : (f1 == 0) = false := by simpa using ef1
                  have df1 : (f1 != 0) = true := by simpa using ef1
                  have HN : Hid (false = (promV 1 ⟨0, 0⟩ 0 0 0 n5 n6 e && restProm f1 n2)) := Lib.hid (by have zn5 : n5 = 0 := (by omega); simp [promV, restProm, nov, nowh, somew, h40, zn5, ef1])
                  go_enter Try.func57, Try.ntmps57
                  go_wp2_with (first
                    | ((with_reducible refine (specInB _ _ _ _).mono ?_); rintro e w1 ⟨rfl, rfl⟩; rw [Hst.out]))
                  go_ret
                  exact GivesBool.of HN.out X.out.low
            · skip
              have HN : Hid (false = (promV 1 ⟨0, 0⟩ 0 0 0 n5 n6 e && restProm f1 n2)) := Lib.hid (by simp [promV, restProm, nov, nowh, somew, h40])
              go_enter Try.func57, Try.ntmps57
              go_wp2_with (first
                | ((with_reducible refine (specInB _ _ _ _).mono ?_); rintro e w1 ⟨rfl, rfl⟩; rw [Hst.out]))
              go_ret
              exact GivesBool.of HN.out X.out.low
          · skip
            have bf9 : (f9 == 0) = false := by simpa using ef9
            have df9 : (f9 != 0) = true := by simpa using ef9
            have HN : Hid (false = (promV 1 ⟨0, 0⟩ 0 0 f9 n5 n6 e && restProm f1 n2)) := Lib.hid (by simp [promV, restProm, nov, nowh, somew, ef9])
            go_enter Try.func57, Try.ntmps57
            go_wp2_with (first
              | ((with_reducible refine (specInB _ _ _ _).mono ?_); rintro e w1 ⟨rfl, rfl⟩; rw [Hst.out]))
            go_ret
            exact GivesBool.of HN.out X.out.low
        · skip
          have bf8 : (f8 == 0) = false := by simpa using ef8
          have df8 : (f8 != 0) = true := by simpa using ef8
          have HN : Hid (false = (promV 1 ⟨0, 0⟩ 0 f8 f9 n5 n6 e && restProm f1 n2)) := Lib.hid (by simp [promV, restProm, nov, nowh, somew, ef8])
          go_enter Try.func57, Try.ntmps57
          go_wp2_with (first
            | ((with_reducible refine (specInB _ _ _ _).mono ?_); rintro e w1 ⟨rfl, rfl⟩; rw [Hst.out]))
          go_ret
          exact GivesBool.of HN.out X.out.low
      · skip
        have bf7 : (f7 == 0) = false := by simpa using ef7
        have df7 : (f7 != 0) = true := by simpa using ef7
        have HN : Hid (false = (promV 1 ⟨0, 0⟩ f7 f8 f9 n5 n6 e && restProm f1 n2)) := Lib.hid (by simp [promV, restProm, nov, nowh, somew, ef7])
        go_enter Try.func57, Try.ntmps57
        go_wp2_with (first
          | ((with_reducible refine (specInB _ _ _ _).mono ?_); rintro e w1 ⟨rfl, rfl⟩; rw [Hst.out]))
        go_ret
        exact GivesBool.of HN.out X.out.low
    · skip
      have bf4_1 : (f4_1 == 0) = false := by simpa using ef4_1
      have df4_1 : (f4_1 != 0) = true := by simpa using ef4_1
      have HN : Hid (false = (promV 1 ⟨0, f4_1⟩ f7 f8 f9 n5 n6 e && restProm f1 n2)) := Lib.hid (by simp [promV, restProm, nov, nowh, somew, ef4_1])
      go_enter Try.func57, Try.ntmps57
      go_wp2_with (first
        | ((with_reducible refine (specInB _ _ _ _).mono ?_); rintro e w1 ⟨rfl, rfl⟩; rw [Hst.out]))
      go_ret
      exact GivesBool.of HN.out X.out.low
  · skip
    have bf4_0 : (f4_0 == 0) = false := by simpa using ef4_0
    have df4_0 : (f4_0 != 0) = true := by simpa using ef4_0
    have HN : Hid (false = (promV 1 ⟨f4_0, f4_1⟩ f7 f8 f9 n5 n6 e && restProm f1 n2)) := Lib.hid (by simp [promV, restProm, nov, nowh, somew, ef4_0])
    go_enter Try.func57, Try.ntmps57
    go_wp2_with (first
      | ((with_reducible refine (specInB _ _ _ _).mono ?_); rintro e w1 ⟨rfl, rfl⟩; rw [Hst.out]))
    go_ret
    exact GivesBool.of HN.out X.out.low
set_option maxRecDepth 100000 in
set_option maxHeartbeats 16000000 in
theorem specProm2 (f0 : Int) (f1 : Int) (L2 : List Dat) (A2 : Option Addr) (n2 c2 : Nat) (f4_0 : Int) (f4_1 : Int) (L5 : List Dat) (A5 : Option Addr) (n5 c5 : Nat) (L6 : List Dat) (A6 : Option Addr) (n6 c6 : Nat) (f7 : Int) (f8 : Int) (f9 : Int) (f10 : Int) (e : Int) (w : World) (hl2 : Lies w (.l L2) [.slice A2 n2 c2]) (ht2 : ∀ x ∈ L2, Has tyValue x) (hn2 : n2 ≤ 1099511627776) (hl5 : Lies w (.l L5) [.slice A5 n5 c5]) (ht5 : ∀ x ∈ L5, Has tySent x) (hn5 : n5 ≤ 1099511627776) (hl6 : Lies w (.l L6) [.slice A6 n6 c6]) (ht6 : ∀ x ∈ L6, Has tyAsker x) (hn6 : n6 ≤ 1099511627776) : Calls Try.prog 57 #[.agg #[.int .i64 f0, .int .i64 f1, .slice A2 n2 c2, .int .i64 2, .int .i64 f4_0, .int .i64 f4_1, .slice A5 n5 c5, .slice A6 n6 c6, .int .i64 f7, .int .i64 f8, .int .i64 f9, .int .i64 f10], .int .i64 e] w (GivesBool (promV 2 ⟨f4_0, f4_1⟩ f7 f8 f9 n5 n6 e && restProm f1 n2) w) := by
  have X := Lib.hid (((((St.start w).lie hl2).lie hl5).lie hl6).push #[.int .i64 f0, .int .i64 f1, .slice A2 n2 c2, .int .i64 2, .int .i64 f4_0, .int .i64 f4_1, .slice A5 n5 c5, .slice A6 n6 c6, .int .i64 f7, .int .i64 f8, .int .i64 f9, .int .i64 f10] 30)
  clear hl2 hl5 hl6
  have Hst : Hid (decide ((1 : Int) ≤ 2 ∧ (2 : Int) ≤ 4) = true) := Lib.hid (by decide)
  rcases iv : isVal ⟨f4_0, f4_1⟩ e with _ | _
  · have Hiv : Hid (isVal ⟨f4_0, f4_1⟩ e = false) := Lib.hid iv
    have HN : Hid (false = (promV 2 ⟨f4_0, f4_1⟩ f7 f8 f9 n5 n6 e && restProm f1 n2)) := Lib.hid (by simp [promV, restProm, nov, nowh, somew, iv])
    clear iv
    go_enter Try.func57, Try.ntmps57
    go_wp2_with (first
      | ((with_reducible refine (specInB _ _ _ _).mono ?_); rintro e w1 ⟨rfl, rfl⟩; first | rw [Hst.out] | rw [Hiv.out])
      | ((with_reducible refine (specIsVal ⟨f4_0, f4_1⟩ e _).mono ?_); rintro e w2 ⟨rfl, hb5⟩; rw [Hiv.out]; replace X := Lib.hid (X.out.below hb5); clear hb5; obtain ⟨x0, x1, x2, x3, x4, x5, x6, x7, x8, x9, x10, x11⟩ := (X.out.c12 (b := w.heap.size) (v0 := .int .i64 f0) (v1 := .int .i64 f1) (v2 := .slice A2 n2 c2) (v3 := .int .i64 2) (v4 := .int .i64 f4_0) (v5 := .int .i64 f4_1) (v6 := .slice A5 n5 c5) (v7 := .slice A6 n6 c6) (v8 := .int .i64 f7) (v9 := .int .i64 f8) (v10 := .int .i64 f9) (v11 := .int .i64 f10) (by repeat (first | exact List.mem_cons_self | refine List.mem_cons_of_mem _ ?_)))))
    go_ret
    exact GivesBool.of HN.out X.out.low
  · have Hiv : Hid (isVal ⟨f4_0, f4_1⟩ e = true) := Lib.hid iv
    by_cases ef7 : f7 = 0
    · subst ef7
      by_cases ef8 : f8 = 0
      · subst ef8
        by_cases ef9 : f9 = 0
        · subst ef9
          by_cases h0 : (0 : Int) < n5
          · have bn5 : ((n5 : Int) == 0) = false := by rw [beq_eq_false_iff_ne]; omega
            by_cases h40 : (n5 : Int) ≤ 40
            · skip
              have HN : Hid (false = (promV 2 ⟨f4_0, f4_1⟩ 0 0 0 n5 n6 e && restProm f1 n2)) := Lib.hid (by have zn5 : ¬ n5 = 0 := (by omega); simp [promV, restProm, nov, nowh, somew, iv, zn5, h40])
              clear iv
              go_enter Try.func57, Try.ntmps57
              go_wp2_with (first
                | ((with_reducible refine (specInB _ _ _ _).mono ?_); rintro e w1 ⟨rfl, rfl⟩; first | rw [Hst.out] | rw [Hiv.out])
                | ((with_reducible refine (specIsVal ⟨f4_0, f4_1⟩ e _).mono ?_); rintro e w2 ⟨rfl, hb5⟩; rw [Hiv.out]; replace X := Lib.hid (X.out.below hb5); clear hb5; obtain ⟨x0, x1, x2, x3, x4, x5, x6, x7, x8, x9, x10, x11⟩ := (X.out.c12 (b := w.heap.size) (v0 := .int .i64 f0) (v1 := .int .i64 f1) (v2 := .slice A2 n2 c2) (v3 := .int .i64 2) (v4 := .int .i64 f4_0) (v5 := .int .i64 f4_1) (v6 := .slice A5 n5 c5) (v7 := .slice A6 n6 c6) (v8 := .int .i64 0) (v9 := .int .i64 0) (v10 := .int .i64 0) (v11 := .int .i64 f10) (by repeat (first | exact List.mem_cons_self | refine List.mem_cons_of_mem _ ?_)))))
              go_ret
              exact GivesBool.of HN.out X.out.low
            · skip
              have HN : Hid (false = (promV 2 ⟨f4_0, f4_1⟩ 0 0 0 n5 n6 e && restProm f1 n2)) := Lib.hid (by have zn5 : ¬ n5 = 0 := (by omega); simp [promV, restProm, nov, nowh, somew, iv, zn5, h40])
              clear iv
              go_enter Try.func57, Try.ntmps57
              go_wp2_with (first
                | ((with_reducible refine (specInB _ _ _ _).mono ?_); rintro e w1 ⟨rfl, rfl⟩; first | rw [Hst.out] | rw [Hiv.out])
                | ((with_reducible refine (specIsVal ⟨f4_0, f4_1⟩ e _).mono ?_); rintro e w2 ⟨rfl, hb5⟩; rw [Hiv.out]; replace X := Lib.hid (X.out.below hb5); clear hb5; obtain ⟨x0, x1, x2, x3, x4, x5, x6, x7, x8, x9, x10, x11⟩ := (X.out.c12 (b := w.heap.size) (v0 := .int .i64 f0) (v1 := .int .i64 f1) (v2 := .slice A2 n2 c2) (v3 := .int .i64 2) (v4 := .int .i64 f4_0) (v5 := .int .i64 f4_1) (v6 := .slice A5 n5 c5) (v7 := .slice A6 n6 c6) (v8 := .int .i64 0) (v9 := .int .i64 0) (v10 := .int .i64 0) (v11 := .int .i64 f10) (by repeat (first | exact List.mem_cons_self | refine List.mem_cons_of_mem _ ?_)))))
              go_ret
              exact GivesBool.of HN.out X.out.low
          · have bn5 : ((n5 : Int) == 0) = true := by rw [beq_iff_eq]; omega
            by_cases ef1 : f1 = 0
            · subst ef1
              by_cases h2 : (0 : Int) < n2
              · have bn2 : ((n2 : Int) == 0) = false := by rw [beq_eq_false_iff_ne]; omega
                have HN : Hid (false = (promV 2 ⟨f4_0, f4_1⟩ 0 0 0 n5 n6 e && restProm 0 n2)) := Lib.hid (by have zn5 : n5 = 0 := (by omega); have zn2 : ¬ n2 = 0 := (by omega); simp [promV, restProm, nov, nowh, somew, iv, zn5, zn2])
                clear iv
                go_enter Try.func57, Try.ntmps57
                go_wp2_with (first
                  | ((with_reducible refine (specInB _ _ _ _).mono ?_); rintro e w1 ⟨rfl, rfl⟩; first | rw [Hst.out] | rw [Hiv.out])
                  | ((with_reducible refine (specIsVal ⟨f4_0, f4_1⟩ e _).mono ?_); rintro e w2 ⟨rfl, hb5⟩; rw [Hiv.out]; replace X := Lib.hid (X.out.below hb5); clear hb5; obtain ⟨x0, x1, x2, x3, x4, x5, x6, x7, x8, x9, x10, x11⟩ := (X.out.c12 (b := w.heap.size) (v0 := .int .i64 f0) (v1 := .int .i64 0) (v2 := .slice A2 n2 c2) (v3 := .int .i64 2) (v4 := .int .i64 f4_0) (v5 := .int .i64 f4_1) (v6 := .slice A5 n5 c5) (v7 := .slice A6 n6 c6) (v8 := .int .i64 0) (v9 := .int .i64 0) (v10 := .int .i64 0) (v11 := .int .i64 f10) (by repeat (first | exact List.mem_cons_self | refine List.mem_cons_of_mem _ ?_)))))
                go_ret
                exact GivesBool.of HN.out X.out.low
              · have bn2 : ((n2 : Int) == 0) = true := by rw [beq_iff_eq]; omega
                by_cases h6 : (0 : Int) < n6
                · have bn6 : ((n6 : Int) == 0) = false := by rw [beq_eq_false_iff_ne]; omega
                  have HN : Hid (false = (promV 2 ⟨f4_0, f4_1⟩ 0 0 0 n5 n6 e && restProm 0 n2)) := Lib.hid (by have zn5 : n5 = 0 := (by omega); have zn2 : n2 = 0 := (by omega); have zn6 : ¬ n6 = 0 := (by omega); simp [promV, restProm, nov, nowh, somew, iv, zn5, zn2, zn6])
                  clear iv
                  go_enter Try.func57, Try.ntmps57
                  go_wp2_with (first
                    | ((with_reducible refine (specInB _ _ _ _).mono ?_); rintro e w1 ⟨rfl, rfl⟩; first | rw [Hst.out] | rw [Hiv.out])
                    | ((with_reducible refine (specIsVal ⟨f4_0, f4_1⟩ e _).mono ?_); rintro e w2 ⟨rfl, hb5⟩; rw [Hiv.out]; replace X := Lib.hid (X.out.below hb5); clear hb5; obtain ⟨x0, x1, x2, x3, x4, x5, x6, x7, x8, x9, x10, x11⟩ := (X.out.c12 (b := w.heap.size) (v0 := .int .i64 f0) (v1 := .int .i64 0) (v2 := .slice A2 n2 c2) (v3 := .int .i64 2) (v4 := .int .i64 f4_0) (v5 := .int .i64 f4_1) (v6 := .slice A5 n5 c5) (v7 := .slice A6 n6 c6) (v8 := .int .i64 0) (v9 := .int .i64 0) (v10 := .int .i64 0) (v11 := .int .i64 f10) (by repeat (first | exact List.mem_cons_self | refine List.mem_cons_of_mem _ ?_)))))
                  go_ret
                  exact GivesBool.of HN.out X.out.low
                · have bn6 : ((n6 : Int) == 0) = true := by rw [beq_iff_eq]; omega
                  have HN : Hid (true = (promV 2 ⟨f4_0, f4_1⟩ 0 0 0 n5 n6 e && restProm 0 n2)) := Lib.hid (by have zn5 : n5 = 0 := (by omega); have zn2 : n2 = 0 := (by omega); have zn6 : n6 = 0 := (by omega); simp [promV, restProm, nov, nowh, somew, iv, zn5, zn2, zn6])
                  clear iv
                  go_enter Try.func57, Try.ntmps57
                  go_wp2_with (first
                    | ((with_reducible refine (specInB _ _ _ _).mono ?_); rintro e w1 ⟨rfl, rfl⟩; first | rw [Hst.out] | rw [Hiv.out])
                    | ((with_reducible refine (specIsVal ⟨f4_0, f4_1⟩ e _).mono ?_); rintro e w2 ⟨rfl, hb5⟩; rw [Hiv.out]; replace X := Lib.hid (X.out.below hb5); clear hb5; obtain ⟨x0, x1, x2, x3, x4, x5, x6, x7, x8, x9, x10, x11⟩ := (X.out.c12 (b := w.heap.size) (v0 := .int .i64 f0) (v1 := .int .i64 0) (v2 := .slice A2 n2 c2) (v3 := .int .i64 2) (v4 := .int .i64 f4_0) (v5 := .int .i64 f4_1) (v6 := .slice A5 n5 c5) (v7 := .slice A6 n6 c6) (v8 := .int .i64 0) (v9 := .int .i64 0) (v10 := .int .i64 0) (v11 := .int .i64 f10) (by repeat (first | exact List.mem_cons_self | refine List.mem_cons_of_mem _ ?_)))))
                  go_ret
                  exact GivesBool.of HN.out X.out.low
            · skip
              have bf1 : (f1 == 0) = false := by simpa using ef1
              have df1 : (f1 != 0) = true := by simpa using ef1
              have HN : Hid (false = (promV 2 ⟨f4_0, f4_1⟩ 0 0 0 n5 n6 e && restProm f1 n2)) := Lib.hid (by have zn5 : n5 = 0 := (by omega); simp [promV, restProm, nov, nowh, somew, iv, zn5, ef1])
              clear iv
              go_enter Try.func57, Try.ntmps57
              go_wp2_with (first
                | ((with_reducible refine (specInB _ _ _ _).mono ?_); rintro e w1 ⟨rfl, rfl⟩; first | rw [Hst.out] | rw [Hiv.out])
                | ((with_reducible refine (specIsVal ⟨f4_0, f4_1⟩ e _).mono ?_); rintro e w2 ⟨rfl, hb5⟩; rw [Hiv.out]; replace X := Lib.hid (X.out.below hb5); clear hb5; obtain ⟨x0, x1, x2, x3, x4, x5, x6, x7, x8, x9, x10, x11⟩ := (X.out.c12 (b := w.heap.size) (v0 := .int .i64 f0) (v1 := .int .i64 f1) (v2 := .slice A2 n2 c2) (v3 := .int .i64 2) (v4 := .int .i64 f4_0) (v5 := .int .i64 f4_1) (v6 := .slice A5 n5 c5) (v7 := .slice A6 n6 c6) (v8 := .int .i64 0) (v9 := .int .i64 0) (v10 := .int .i64 0) (v11 := .int .i64 f10) (by repeat (first | exact List.mem_cons_self | refine List.mem_cons_of_mem _ ?_)))))
              go_ret
              exact GivesBool.of HN.out X.out.low
        · skip
          have bf9 : (f9 == 0) = false := by simpa using ef9
          have df9 : (f9 != 0) = true := by simpa using ef9
          have HN : Hid (false = (promV 2 ⟨f4_0, f4_1⟩ 0 0 f9 n5 n6 e && restProm f1 n2)) := Lib.hid (by simp [promV, restProm, nov, nowh, somew, iv, ef9])
          clear iv
          go_enter Try.func57, Try.ntmps57
          go_wp2_with (first
            | ((with_reducible refine (specInB _ _ _ _).mono ?_); rintro e w1 ⟨rfl, rfl⟩; first | rw [Hst.out] | rw [Hiv.out])
            | ((with_reducible refine (specIsVal ⟨f4_0, f4_1⟩ e _).mono ?_); rintro e w2 ⟨rfl, hb5⟩; rw [Hiv.out]; replace X := Lib.hid (X.out.below hb5); clear hb5; obtain ⟨x0, x1, x2, x3, x4, x5, x6, x7, x8, x9, x10, x11⟩ := (X.out.c12 (b := w.heap.size) (v0 := .int .i64 f0) (v1 := .int .i64 f1) (v2 := .slice A2 n2 c2) (v3 := .int .i64 2) (v4 := .int .i64 f4_0) (v5 := .int .i64 f4_1) (v6 := .slice A5 n5 c5) (v7 := .slice A6 n6 c6) (v8 := .int .i64 0) (v9 := .int .i64 0) (v10 := .int .i64 f9) (v11 := .int .i64 f10) (by repeat (first | exact List.mem_cons_self | refine List.mem_cons_of_mem _ ?_)))))
          go_ret
          exact GivesBool.of HN.out X.out.low
      · skip
        have bf8 : (f8 == 0) = false := by simpa using ef8
        have df8 : (f8 != 0) = true := by simpa using ef8
        have HN : Hid (false = (promV 2 ⟨f4_0, f4_1⟩ 0 f8 f9 n5 n6 e && restProm f1 n2)) := Lib.hid (by simp [promV, restProm, nov, nowh, somew, iv, ef8])
        clear iv
        go_enter Try.func57, Try.ntmps57
        go_wp2_with (first
          | ((with_reducible refine (specInB _ _ _ _).mono ?_); rintro e w1 ⟨rfl, rfl⟩; first | rw [Hst.out] | rw [Hiv.out])
          | ((with_reducible refine (specIsVal ⟨f4_0, f4_1⟩ e _).mono ?_); rintro e w2 ⟨rfl, hb5⟩; rw [Hiv.out]; replace X := Lib.hid (X.out.below hb5); clear hb5; obtain ⟨x0, x1, x2, x3, x4, x5, x6, x7, x8, x9, x10, x11⟩ := (X.out.c12 (b := w.heap.size) (v0 := .int .i64 f0) (v1 := .int .i64 f1) (v2 := .slice A2 n2 c2) (v3 := .int .i64 2) (v4 := .int .i64 f4_0) (v5 := .int .i64 f4_1) (v6 := .slice A5 n5 c5) (v7 := .slice A6 n6 c6) (v8 := .int .i64 0) (v9 := .int .i64 f8) (v10 := .int .i64 f9) (v11 := .int .i64 f10) (by repeat (first | exact List.mem_cons_self | refine List.mem_cons_of_mem _ ?_)))))
        go_ret
        exact GivesBool.of HN.out X.out.low
    · skip
      have bf7 : (f7 == 0) = false := by simpa using ef7
      have df7 : (f7 != 0) = true := by simpa using ef7
      have HN : Hid (false = (promV 2 ⟨f4_0, f4_1⟩ f7 f8 f9 n5 n6 e && restProm f1 n2)) := Lib.hid (by simp [promV, restProm, nov, nowh, somew, iv, ef7])
      clear iv
      go_enter Try.func57, Try.ntmps57
      go_wp2_with (first
        | ((with_reducible refine (specInB _ _ _ _).mono ?_); rintro e w1 ⟨rfl, rfl⟩; first | rw [Hst.out] | rw [Hiv.out])
        | ((with_reducible refine (specIsVal ⟨f4_0, f4_1⟩ e _).mono ?_); rintro e w2 ⟨rfl, hb5⟩; rw [Hiv.out]; replace X := Lib.hid (X.out.below hb5); clear hb5; obtain ⟨x0, x1, x2, x3, x4, x5, x6, x7, x8, x9, x10, x11⟩ := (X.out.c12 (b := w.heap.size) (v0 := .int .i64 f0) (v1 := .int .i64 f1) (v2 := .slice A2 n2 c2) (v3 := .int .i64 2) (v4 := .int .i64 f4_0) (v5 := .int .i64 f4_1) (v6 := .slice A5 n5 c5) (v7 := .slice A6 n6 c6) (v8 := .int .i64 f7) (v9 := .int .i64 f8) (v10 := .int .i64 f9) (v11 := .int .i64 f10) (by repeat (first | exact List.mem_cons_self | refine List.mem_cons_of_mem _ ?_)))))
      go_ret
      exact GivesBool.of HN.out X.out.low
set_option maxRecDepth 100000 in
set_option maxHeartbeats 16000000 in
theorem specProm3 (f0 : Int) (f1 : Int) (L2 : List Dat) (A2 : Option Addr) (n2 c2 : Nat) (f4_0 : Int) (f4_1 : Int) (L5 : List Dat) (A5 : Option Addr) (n5 c5 : Nat) (L6 : List Dat) (A6 : Option Addr) (n6 c6 : Nat) (f7 : Int) (f8 : Int) (f9 : Int) (f10 : Int) (e : Int) (w : World) (hl2 : Lies w (.l L2) [.slice A2 n2 c2]) (ht2 : ∀ x ∈ L2, Has tyValue x) (hn2 : n2 ≤ 1099511627776) (hl5 : Lies w (.l L5) [.slice A5 n5 c5]) (ht5 : ∀ x ∈ L5, Has tySent x) (hn5 : n5 ≤ 1099511627776) (hl6 : Lies w (.l L6) [.slice A6 n6 c6]) (ht6 : ∀ x ∈ L6, Has tyAsker x) (hn6 : n6 ≤ 1099511627776) : Calls Try.prog 57 #[.agg #[.int .i64 f0, .int .i64 f1, .slice A2 n2 c2, .int .i64 3, .int .i64 f4_0, .int .i64 f4_1, .slice A5 n5 c5, .slice A6 n6 c6, .int .i64 f7, .int .i64 f8, .int .i64 f9, .int .i64 f10], .int .i64 e] w (GivesBool (promV 3 ⟨f4_0, f4_1⟩ f7 f8 f9 n5 n6 e && restProm f1 n2) w) := by
  have X := Lib.hid (((((St.start w).lie hl2).lie hl5).lie hl6).push #[.int .i64 f0, .int .i64 f1, .slice A2 n2 c2, .int .i64 3, .int .i64 f4_0, .int .i64 f4_1, .slice A5 n5 c5, .slice A6 n6 c6, .int .i64 f7, .int .i64 f8, .int .i64 f9, .int .i64 f10] 30)
  clear hl2 hl5 hl6
  have Hst : Hid (decide ((1 : Int) ≤ 3 ∧ (3 : Int) ≤ 4) = true) := Lib.hid (by decide)
  by_cases ef4_0 : f4_0 = 0
  · subst ef4_0
    by_cases ef4_1 : f4_1 = 0
    · subst ef4_1
      rcases p1 : decide (1 ≤ f7 ∧ f7 ≤ 4) with _ | _
      · have Hp1 : Hid (decide (1 ≤ f7 ∧ f7 ≤ 4) = false) := Lib.hid p1
        have HN : Hid (false = (promV 3 ⟨0, 0⟩ f7 f8 f9 n5 n6 e && restProm f1 n2)) := Lib.hid (by simp [promV, restProm, nov, nowh, somew, p1])
        clear p1
        go_enter Try.func57, Try.ntmps57
        go_wp2_with (first
          | ((with_reducible refine (specInB _ _ _ _).mono ?_); rintro e w1 ⟨rfl, rfl⟩; first | rw [Hst.out] | rw [Hp1.out]))
        go_ret
        exact GivesBool.of HN.out X.out.low
      · have Hp1 : Hid (decide (1 ≤ f7 ∧ f7 ≤ 4) = true) := Lib.hid p1
        rcases p2 : decide (1 ≤ f8 ∧ f8 ≤ 999999) with _ | _
        · have Hp2 : Hid (decide (1 ≤ f8 ∧ f8 ≤ 999999) = false) := Lib.hid p2
          have HN : Hid (false = (promV 3 ⟨0, 0⟩ f7 f8 f9 n5 n6 e && restProm f1 n2)) := Lib.hid (by simp [promV, restProm, nov, nowh, somew, p1, p2])
          clear p1 p2
          go_enter Try.func57, Try.ntmps57
          go_wp2_with (first
            | ((with_reducible refine (specInB _ _ _ _).mono ?_); rintro e w1 ⟨rfl, rfl⟩; first | rw [Hst.out] | rw [Hp1.out] | rw [Hp2.out]))
          go_ret
          exact GivesBool.of HN.out X.out.low
        · have Hp2 : Hid (decide (1 ≤ f8 ∧ f8 ≤ 999999) = true) := Lib.hid p2
          rcases p3 : decide (0 ≤ f9 ∧ f9 ≤ 999999) with _ | _
          · have Hp3 : Hid (decide (0 ≤ f9 ∧ f9 ≤ 999999) = false) := Lib.hid p3
            have HN : Hid (false = (promV 3 ⟨0, 0⟩ f7 f8 f9 n5 n6 e && restProm f1 n2)) := Lib.hid (by simp [promV, restProm, nov, nowh, somew, p1, p2, p3])
            clear p1 p2 p3
            go_enter Try.func57, Try.ntmps57
            go_wp2_with (first
              | ((with_reducible refine (specInB _ _ _ _).mono ?_); rintro e w1 ⟨rfl, rfl⟩; first | rw [Hst.out] | rw [Hp1.out] | rw [Hp2.out] | rw [Hp3.out]))
            go_ret
            exact GivesBool.of HN.out X.out.low
          · have Hp3 : Hid (decide (0 ≤ f9 ∧ f9 ≤ 999999) = true) := Lib.hid p3
            by_cases h0 : (0 : Int) < n5
            · have bn5 : ((n5 : Int) == 0) = false := by rw [beq_eq_false_iff_ne]; omega
              by_cases h40 : (n5 : Int) ≤ 40
              · skip
                have HN : Hid (false = (promV 3 ⟨0, 0⟩ f7 f8 f9 n5 n6 e && restProm f1 n2)) := Lib.hid (by have zn5 : ¬ n5 = 0 := (by omega); simp [promV, restProm, nov, nowh, somew, p1, p2, p3, zn5, h40])
                clear p1 p2 p3
                go_enter Try.func57, Try.ntmps57
                go_wp2_with (first
                  | ((with_reducible refine (specInB _ _ _ _).mono ?_); rintro e w1 ⟨rfl, rfl⟩; first | rw [Hst.out] | rw [Hp1.out] | rw [Hp2.out] | rw [Hp3.out]))
                go_ret
                exact GivesBool.of HN.out X.out.low
              · skip
                have HN : Hid (false = (promV 3 ⟨0, 0⟩ f7 f8 f9 n5 n6 e && restProm f1 n2)) := Lib.hid (by have zn5 : ¬ n5 = 0 := (by omega); simp [promV, restProm, nov, nowh, somew, p1, p2, p3, zn5, h40])
                clear p1 p2 p3
                go_enter Try.func57, Try.ntmps57
                go_wp2_with (first
                  | ((with_reducible refine (specInB _ _ _ _).mono ?_); rintro e w1 ⟨rfl, rfl⟩; first | rw [Hst.out] | rw [Hp1.out] | rw [Hp2.out] | rw [Hp3.out]))
                go_ret
                exact GivesBool.of HN.out X.out.low
            · have bn5 : ((n5 : Int) == 0) = true := by rw [beq_iff_eq]; omega
              by_cases ef1 : f1 = 0
              · subst ef1
                by_cases h2 : (0 : Int) < n2
                · have bn2 : ((n2 : Int) == 0) = false := by rw [beq_eq_false_iff_ne]; omega
                  have HN : Hid (false = (promV 3 ⟨0, 0⟩ f7 f8 f9 n5 n6 e && restProm 0 n2)) := Lib.hid (by have zn5 : n5 = 0 := (by omega); have zn2 : ¬ n2 = 0 := (by omega); simp [promV, restProm, nov, nowh, somew, p1, p2, p3, zn5, zn2])
                  clear p1 p2 p3
                  go_enter Try.func57, Try.ntmps57
                  go_wp2_with (first
                    | ((with_reducible refine (specInB _ _ _ _).mono ?_); rintro e w1 ⟨rfl, rfl⟩; first | rw [Hst.out] | rw [Hp1.out] | rw [Hp2.out] | rw [Hp3.out]))
                  go_ret
                  exact GivesBool.of HN.out X.out.low
                · have bn2 : ((n2 : Int) == 0) = true := by rw [beq_iff_eq]; omega
                  have HN : Hid (true = (promV 3 ⟨0, 0⟩ f7 f8 f9 n5 n6 e && restProm 0 n2)) := Lib.hid (by have zn5 : n5 = 0 := (by omega); have zn2 : n2 = 0 := (by omega); simp [promV, restProm, nov, nowh, somew, p1, p2, p3, zn5, zn2])
                  clear p1 p2 p3
                  go_enter Try.func57, Try.ntmps57
                  go_wp2_with (first
                    | ((with_reducible refine (specInB _ _ _ _).mono ?_); rintro e w1 ⟨rfl, rfl⟩; first | rw [Hst.out] | rw [Hp1.out] | rw [Hp2.out] | rw [Hp3.out]))
                  go_ret
                  exact GivesBool.of HN.out X.out.low
              · skip
                have bf1 : (f1 == 0) = false := by simpa using ef1
                have df1 : (f1 != 0) = true := by simpa using ef1
                have HN : Hid (false = (promV 3 ⟨0, 0⟩ f7 f8 f9 n5 n6 e && restProm f1 n2)) := Lib.hid (by have zn5 : n5 = 0 := (by omega); simp [promV, restProm, nov, nowh, somew, p1, p2, p3, zn5, ef1])
                clear p1 p2 p3
                go_enter Try.func57, Try.ntmps57
                go_wp2_with (first
                  | ((with_reducible refine (specInB _ _ _ _).mono ?_); rintro e w1 ⟨rfl, rfl⟩; first | rw [Hst.out] | rw [Hp1.out] | rw [Hp2.out] | rw [Hp3.out]))
                go_ret
                exact GivesBool.of HN.out X.out.low
    · skip
      have bf4_1 : (f4_1 == 0) = false := by simpa using ef4_1
      have df4_1 : (f4_1 != 0) = true := by simpa using ef4_1
      have HN : Hid (false = (promV 3 ⟨0, f4_1⟩ f7 f8 f9 n5 n6 e && restProm f1 n2)) := Lib.hid (by simp [promV, restProm, nov, nowh, somew, ef4_1])
      go_enter Try.func57, Try.ntmps57
      go_wp2_with (first
        | ((with_reducible refine (specInB _ _ _ _).mono ?_); rintro e w1 ⟨rfl, rfl⟩; rw [Hst.out]))
      go_ret
      exact GivesBool.of HN.out X.out.low
  · skip
    have bf4_0 : (f4_0 == 0) = false := by simpa using ef4_0
    have df4_0 : (f4_0 != 0) = true := by simpa using ef4_0
    have HN : Hid (false = (promV 3 ⟨f4_0, f4_1⟩ f7 f8 f9 n5 n6 e && restProm f1 n2)) := Lib.hid (by simp [promV, restProm, nov, nowh, somew, ef4_0])
    go_enter Try.func57, Try.ntmps57
    go_wp2_with (first
      | ((with_reducible refine (specInB _ _ _ _).mono ?_); rintro e w1 ⟨rfl, rfl⟩; rw [Hst.out]))
    go_ret
    exact GivesBool.of HN.out X.out.low
set_option maxRecDepth 100000 in
set_option maxHeartbeats 16000000 in
theorem specProm4 (f0 : Int) (f1 : Int) (L2 : List Dat) (A2 : Option Addr) (n2 c2 : Nat) (f4_0 : Int) (f4_1 : Int) (L5 : List Dat) (A5 : Option Addr) (n5 c5 : Nat) (L6 : List Dat) (A6 : Option Addr) (n6 c6 : Nat) (f7 : Int) (f8 : Int) (f9 : Int) (f10 : Int) (e : Int) (w : World) (hl2 : Lies w (.l L2) [.slice A2 n2 c2]) (ht2 : ∀ x ∈ L2, Has tyValue x) (hn2 : n2 ≤ 1099511627776) (hl5 : Lies w (.l L5) [.slice A5 n5 c5]) (ht5 : ∀ x ∈ L5, Has tySent x) (hn5 : n5 ≤ 1099511627776) (hl6 : Lies w (.l L6) [.slice A6 n6 c6]) (ht6 : ∀ x ∈ L6, Has tyAsker x) (hn6 : n6 ≤ 1099511627776) : Calls Try.prog 57 #[.agg #[.int .i64 f0, .int .i64 f1, .slice A2 n2 c2, .int .i64 4, .int .i64 f4_0, .int .i64 f4_1, .slice A5 n5 c5, .slice A6 n6 c6, .int .i64 f7, .int .i64 f8, .int .i64 f9, .int .i64 f10], .int .i64 e] w (GivesBool (promV 4 ⟨f4_0, f4_1⟩ f7 f8 f9 n5 n6 e && restProm f1 n2) w) := by
  have X := Lib.hid (((((St.start w).lie hl2).lie hl5).lie hl6).push #[.int .i64 f0, .int .i64 f1, .slice A2 n2 c2, .int .i64 4, .int .i64 f4_0, .int .i64 f4_1, .slice A5 n5 c5, .slice A6 n6 c6, .int .i64 f7, .int .i64 f8, .int .i64 f9, .int .i64 f10] 30)
  clear hl2 hl5 hl6
  have Hst : Hid (decide ((1 : Int) ≤ 4 ∧ (4 : Int) ≤ 4) = true) := Lib.hid (by decide)
  rcases iv : isVal ⟨f4_0, f4_1⟩ e with _ | _
  · have Hiv : Hid (isVal ⟨f4_0, f4_1⟩ e = false) := Lib.hid iv
    have HN : Hid (false = (promV 4 ⟨f4_0, f4_1⟩ f7 f8 f9 n5 n6 e && restProm f1 n2)) := Lib.hid (by simp [promV, restProm, nov, nowh, somew, iv])
    clear iv
    go_enter Try.func57, Try.ntmps57
    go_wp2_with (first
      | ((with_reducible refine (specInB _ _ _ _).mono ?_); rintro e w1 ⟨rfl, rfl⟩; first | rw [Hst.out] | rw [Hiv.out])
      | ((with_reducible refine (specIsVal ⟨f4_0, f4_1⟩ e _).mono ?_); rintro e w2 ⟨rfl, hb5⟩; rw [Hiv.out]; replace X := Lib.hid (X.out.below hb5); clear hb5; obtain ⟨x0, x1, x2, x3, x4, x5, x6, x7, x8, x9, x10, x11⟩ := (X.out.c12 (b := w.heap.size) (v0 := .int .i64 f0) (v1 := .int .i64 f1) (v2 := .slice A2 n2 c2) (v3 := .int .i64 4) (v4 := .int .i64 f4_0) (v5 := .int .i64 f4_1) (v6 := .slice A5 n5 c5) (v7 := .slice A6 n6 c6) (v8 := .int .i64 f7) (v9 := .int .i64 f8) (v10 := .int .i64 f9) (v11 := .int .i64 f10) (by repeat (first | exact List.mem_cons_self | refine List.mem_cons_of_mem _ ?_)))))
    go_ret
    exact GivesBool.of HN.out X.out.low
  · have Hiv : Hid (isVal ⟨f4_0, f4_1⟩ e = true) := Lib.hid iv
    rcases p1 : decide (1 ≤ f7 ∧ f7 ≤ 4) with _ | _
    · have Hp1 : Hid (decide (1 ≤ f7 ∧ f7 ≤ 4) = false) := Lib.hid p1
      have HN : Hid (false = (promV 4 ⟨f4_0, f4_1⟩ f7 f8 f9 n5 n6 e && restProm f1 n2)) := Lib.hid (by simp [promV, restProm, nov, nowh, somew, iv, p1])
      clear iv p1
      go_enter Try.func57, Try.ntmps57
      go_wp2_with (first
        | ((with_reducible refine (specInB _ _ _ _).mono ?_); rintro e w1 ⟨rfl, rfl⟩; first | rw [Hst.out] | rw [Hiv.out] | rw [Hp1.out])
        | ((with_reducible refine (specIsVal ⟨f4_0, f4_1⟩ e _).mono ?_); rintro e w2 ⟨rfl, hb5⟩; rw [Hiv.out]; replace X := Lib.hid (X.out.below hb5); clear hb5; obtain ⟨x0, x1, x2, x3, x4, x5, x6, x7, x8, x9, x10, x11⟩ := (X.out.c12 (b := w.heap.size) (v0 := .int .i64 f0) (v1 := .int .i64 f1) (v2 := .slice A2 n2 c2) (v3 := .int .i64 4) (v4 := .int .i64 f4_0) (v5 := .int .i64 f4_1) (v6 := .slice A5 n5 c5) (v7 := .slice A6 n6 c6) (v8 := .int .i64 f7) (v9 := .int .i64 f8) (v10 := .int .i64 f9) (v11 := .int .i64 f10) (by repeat (first | exact List.mem_cons_self | refine List.mem_cons_of_mem _ ?_)))))
      go_ret
      exact GivesBool.of HN.out X.out.low
    · have Hp1 : Hid (decide (1 ≤ f7 ∧ f7 ≤ 4) = true) := Lib.hid p1
      rcases p2 : decide (1 ≤ f8 ∧ f8 ≤ 999999) with _ | _
      · have Hp2 : Hid (decide (1 ≤ f8 ∧ f8 ≤ 999999) = false) := Lib.hid p2
        have HN : Hid (false = (promV 4 ⟨f4_0, f4_1⟩ f7 f8 f9 n5 n6 e && restProm f1 n2)) := Lib.hid (by simp [promV, restProm, nov, nowh, somew, iv, p1, p2])
        clear iv p1 p2
        go_enter Try.func57, Try.ntmps57
        go_wp2_with (first
          | ((with_reducible refine (specInB _ _ _ _).mono ?_); rintro e w1 ⟨rfl, rfl⟩; first | rw [Hst.out] | rw [Hiv.out] | rw [Hp1.out] | rw [Hp2.out])
          | ((with_reducible refine (specIsVal ⟨f4_0, f4_1⟩ e _).mono ?_); rintro e w2 ⟨rfl, hb5⟩; rw [Hiv.out]; replace X := Lib.hid (X.out.below hb5); clear hb5; obtain ⟨x0, x1, x2, x3, x4, x5, x6, x7, x8, x9, x10, x11⟩ := (X.out.c12 (b := w.heap.size) (v0 := .int .i64 f0) (v1 := .int .i64 f1) (v2 := .slice A2 n2 c2) (v3 := .int .i64 4) (v4 := .int .i64 f4_0) (v5 := .int .i64 f4_1) (v6 := .slice A5 n5 c5) (v7 := .slice A6 n6 c6) (v8 := .int .i64 f7) (v9 := .int .i64 f8) (v10 := .int .i64 f9) (v11 := .int .i64 f10) (by repeat (first | exact List.mem_cons_self | refine List.mem_cons_of_mem _ ?_)))))
        go_ret
        exact GivesBool.of HN.out X.out.low
      · have Hp2 : Hid (decide (1 ≤ f8 ∧ f8 ≤ 999999) = true) := Lib.hid p2
        rcases p3 : decide (0 ≤ f9 ∧ f9 ≤ 999999) with _ | _
        · have Hp3 : Hid (decide (0 ≤ f9 ∧ f9 ≤ 999999) = false) := Lib.hid p3
          have HN : Hid (false = (promV 4 ⟨f4_0, f4_1⟩ f7 f8 f9 n5 n6 e && restProm f1 n2)) := Lib.hid (by simp [promV, restProm, nov, nowh, somew, iv, p1, p2, p3])
          clear iv p1 p2 p3
          go_enter Try.func57, Try.ntmps57
          go_wp2_with (first
            | ((with_reducible refine (specInB _ _ _ _).mono ?_); rintro e w1 ⟨rfl, rfl⟩; first | rw [Hst.out] | rw [Hiv.out] | rw [Hp1.out] | rw [Hp2.out] | rw [Hp3.out])
            | ((with_reducible refine (specIsVal ⟨f4_0, f4_1⟩ e _).mono ?_); rintro e w2 ⟨rfl, hb5⟩; rw [Hiv.out]; replace X := Lib.hid (X.out.below hb5); clear hb5; obtain ⟨x0, x1, x2, x3, x4, x5, x6, x7, x8, x9, x10, x11⟩ := (X.out.c12 (b := w.heap.size) (v0 := .int .i64 f0) (v1 := .int .i64 f1) (v2 := .slice A2 n2 c2) (v3 := .int .i64 4) (v4 := .int .i64 f4_0) (v5 := .int .i64 f4_1) (v6 := .slice A5 n5 c5) (v7 := .slice A6 n6 c6) (v8 := .int .i64 f7) (v9 := .int .i64 f8) (v10 := .int .i64 f9) (v11 := .int .i64 f10) (by repeat (first | exact List.mem_cons_self | refine List.mem_cons_of_mem _ ?_)))))
          go_ret
          exact GivesBool.of HN.out X.out.low
        · have Hp3 : Hid (decide (0 ≤ f9 ∧ f9 ≤ 999999) = true) := Lib.hid p3
          by_cases h40 : (n5 : Int) ≤ 40
          · skip
            by_cases h0 : (0 : Int) < n5
            · have bn5 : ((n5 : Int) == 0) = false := by rw [beq_eq_false_iff_ne]; omega
              by_cases ef1 : f1 = 0
              · subst ef1
                by_cases h2 : (0 : Int) < n2
                · have bn2 : ((n2 : Int) == 0) = false := by rw [beq_eq_false_iff_ne]; omega
                  have HN : Hid (false = (promV 4 ⟨f4_0, f4_1⟩ f7 f8 f9 n5 n6 e && restProm 0 n2)) := Lib.hid (by have zn5 : ¬ n5 = 0 := (by omega); have zn2 : ¬ n2 = 0 := (by omega); simp [promV, restProm, nov, nowh, somew, iv, p1, p2, p3, h40, zn5, zn2])
                  clear iv p1 p2 p3
                  go_enter Try.func57, Try.ntmps57
                  go_wp2_with (first
                    | ((with_reducible refine (specInB _ _ _ _).mono ?_); rintro e w1 ⟨rfl, rfl⟩; first | rw [Hst.out] | rw [Hiv.out] | rw [Hp1.out] | rw [Hp2.out] | rw [Hp3.out])
                    | ((with_reducible refine (specIsVal ⟨f4_0, f4_1⟩ e _).mono ?_); rintro e w2 ⟨rfl, hb5⟩; rw [Hiv.out]; replace X := Lib.hid (X.out.below hb5); clear hb5; obtain ⟨x0, x1, x2, x3, x4, x5, x6, x7, x8, x9, x10, x11⟩ := (X.out.c12 (b := w.heap.size) (v0 := .int .i64 f0) (v1 := .int .i64 0) (v2 := .slice A2 n2 c2) (v3 := .int .i64 4) (v4 := .int .i64 f4_0) (v5 := .int .i64 f4_1) (v6 := .slice A5 n5 c5) (v7 := .slice A6 n6 c6) (v8 := .int .i64 f7) (v9 := .int .i64 f8) (v10 := .int .i64 f9) (v11 := .int .i64 f10) (by repeat (first | exact List.mem_cons_self | refine List.mem_cons_of_mem _ ?_)))))
                  go_ret
                  exact GivesBool.of HN.out X.out.low
                · have bn2 : ((n2 : Int) == 0) = true := by rw [beq_iff_eq]; omega
                  have HN : Hid (true = (promV 4 ⟨f4_0, f4_1⟩ f7 f8 f9 n5 n6 e && restProm 0 n2)) := Lib.hid (by have zn5 : ¬ n5 = 0 := (by omega); have zn2 : n2 = 0 := (by omega); simp [promV, restProm, nov, nowh, somew, iv, p1, p2, p3, h40, zn5, zn2])
                  clear iv p1 p2 p3
                  go_enter Try.func57, Try.ntmps57
                  go_wp2_with (first
                    | ((with_reducible refine (specInB _ _ _ _).mono ?_); rintro e w1 ⟨rfl, rfl⟩; first | rw [Hst.out] | rw [Hiv.out] | rw [Hp1.out] | rw [Hp2.out] | rw [Hp3.out])
                    | ((with_reducible refine (specIsVal ⟨f4_0, f4_1⟩ e _).mono ?_); rintro e w2 ⟨rfl, hb5⟩; rw [Hiv.out]; replace X := Lib.hid (X.out.below hb5); clear hb5; obtain ⟨x0, x1, x2, x3, x4, x5, x6, x7, x8, x9, x10, x11⟩ := (X.out.c12 (b := w.heap.size) (v0 := .int .i64 f0) (v1 := .int .i64 0) (v2 := .slice A2 n2 c2) (v3 := .int .i64 4) (v4 := .int .i64 f4_0) (v5 := .int .i64 f4_1) (v6 := .slice A5 n5 c5) (v7 := .slice A6 n6 c6) (v8 := .int .i64 f7) (v9 := .int .i64 f8) (v10 := .int .i64 f9) (v11 := .int .i64 f10) (by repeat (first | exact List.mem_cons_self | refine List.mem_cons_of_mem _ ?_)))))
                  go_ret
                  exact GivesBool.of HN.out X.out.low
              · skip
                have bf1 : (f1 == 0) = false := by simpa using ef1
                have df1 : (f1 != 0) = true := by simpa using ef1
                have HN : Hid (false = (promV 4 ⟨f4_0, f4_1⟩ f7 f8 f9 n5 n6 e && restProm f1 n2)) := Lib.hid (by have zn5 : ¬ n5 = 0 := (by omega); simp [promV, restProm, nov, nowh, somew, iv, p1, p2, p3, h40, zn5, ef1])
                clear iv p1 p2 p3
                go_enter Try.func57, Try.ntmps57
                go_wp2_with (first
                  | ((with_reducible refine (specInB _ _ _ _).mono ?_); rintro e w1 ⟨rfl, rfl⟩; first | rw [Hst.out] | rw [Hiv.out] | rw [Hp1.out] | rw [Hp2.out] | rw [Hp3.out])
                  | ((with_reducible refine (specIsVal ⟨f4_0, f4_1⟩ e _).mono ?_); rintro e w2 ⟨rfl, hb5⟩; rw [Hiv.out]; replace X := Lib.hid (X.out.below hb5); clear hb5; obtain ⟨x0, x1, x2, x3, x4, x5, x6, x7, x8, x9, x10, x11⟩ := (X.out.c12 (b := w.heap.size) (v0 := .int .i64 f0) (v1 := .int .i64 f1) (v2 := .slice A2 n2 c2) (v3 := .int .i64 4) (v4 := .int .i64 f4_0) (v5 := .int .i64 f4_1) (v6 := .slice A5 n5 c5) (v7 := .slice A6 n6 c6) (v8 := .int .i64 f7) (v9 := .int .i64 f8) (v10 := .int .i64 f9) (v11 := .int .i64 f10) (by repeat (first | exact List.mem_cons_self | refine List.mem_cons_of_mem _ ?_)))))
                go_ret
                exact GivesBool.of HN.out X.out.low
            · have bn5 : ((n5 : Int) == 0) = true := by rw [beq_iff_eq]; omega
              by_cases ef1 : f1 = 0
              · subst ef1
                by_cases h2 : (0 : Int) < n2
                · have bn2 : ((n2 : Int) == 0) = false := by rw [beq_eq_false_iff_ne]; omega
                  have HN : Hid (false = (promV 4 ⟨f4_0, f4_1⟩ f7 f8 f9 n5 n6 e && restProm 0 n2)) := Lib.hid (by have zn5 : n5 = 0 := (by omega); have zn2 : ¬ n2 = 0 := (by omega); simp [promV, restProm, nov, nowh, somew, iv, p1, p2, p3, h40, zn5, zn2])
                  clear iv p1 p2 p3
                  go_enter Try.func57, Try.ntmps57
                  go_wp2_with (first
                    | ((with_reducible refine (specInB _ _ _ _).mono ?_); rintro e w1 ⟨rfl, rfl⟩; first | rw [Hst.out] | rw [Hiv.out] | rw [Hp1.out] | rw [Hp2.out] | rw [Hp3.out])
                    | ((with_reducible refine (specIsVal ⟨f4_0, f4_1⟩ e _).mono ?_); rintro e w2 ⟨rfl, hb5⟩; rw [Hiv.out]; replace X := Lib.hid (X.out.below hb5); clear hb5; obtain ⟨x0, x1, x2, x3, x4, x5, x6, x7, x8, x9, x10, x11⟩ := (X.out.c12 (b := w.heap.size) (v0 := .int .i64 f0) (v1 := .int .i64 0) (v2 := .slice A2 n2 c2) (v3 := .int .i64 4) (v4 := .int .i64 f4_0) (v5 := .int .i64 f4_1) (v6 := .slice A5 n5 c5) (v7 := .slice A6 n6 c6) (v8 := .int .i64 f7) (v9 := .int .i64 f8) (v10 := .int .i64 f9) (v11 := .int .i64 f10) (by repeat (first | exact List.mem_cons_self | refine List.mem_cons_of_mem _ ?_)))))
                  go_ret
                  exact GivesBool.of HN.out X.out.low
                · have bn2 : ((n2 : Int) == 0) = true := by rw [beq_iff_eq]; omega
                  have HN : Hid (true = (promV 4 ⟨f4_0, f4_1⟩ f7 f8 f9 n5 n6 e && restProm 0 n2)) := Lib.hid (by have zn5 : n5 = 0 := (by omega); have zn2 : n2 = 0 := (by omega); simp [promV, restProm, nov, nowh, somew, iv, p1, p2, p3, h40, zn5, zn2])
                  clear iv p1 p2 p3
                  go_enter Try.func57, Try.ntmps57
                  go_wp2_with (first
                    | ((with_reducible refine (specInB _ _ _ _).mono ?_); rintro e w1 ⟨rfl, rfl⟩; first | rw [Hst.out] | rw [Hiv.out] | rw [Hp1.out] | rw [Hp2.out] | rw [Hp3.out])
                    | ((with_reducible refine (specIsVal ⟨f4_0, f4_1⟩ e _).mono ?_); rintro e w2 ⟨rfl, hb5⟩; rw [Hiv.out]; replace X := Lib.hid (X.out.below hb5); clear hb5; obtain ⟨x0, x1, x2, x3, x4, x5, x6, x7, x8, x9, x10, x11⟩ := (X.out.c12 (b := w.heap.size) (v0 := .int .i64 f0) (v1 := .int .i64 0) (v2 := .slice A2 n2 c2) (v3 := .int .i64 4) (v4 := .int .i64 f4_0) (v5 := .int .i64 f4_1) (v6 := .slice A5 n5 c5) (v7 := .slice A6 n6 c6) (v8 := .int .i64 f7) (v9 := .int .i64 f8) (v10 := .int .i64 f9) (v11 := .int .i64 f10) (by repeat (first | exact List.mem_cons_self | refine List.mem_cons_of_mem _ ?_)))))
                  go_ret
                  exact GivesBool.of HN.out X.out.low
              · skip
                have bf1 : (f1 == 0) = false := by simpa using ef1
                have df1 : (f1 != 0) = true := by simpa using ef1
                have HN : Hid (false = (promV 4 ⟨f4_0, f4_1⟩ f7 f8 f9 n5 n6 e && restProm f1 n2)) := Lib.hid (by have zn5 : n5 = 0 := (by omega); simp [promV, restProm, nov, nowh, somew, iv, p1, p2, p3, h40, zn5, ef1])
                clear iv p1 p2 p3
                go_enter Try.func57, Try.ntmps57
                go_wp2_with (first
                  | ((with_reducible refine (specInB _ _ _ _).mono ?_); rintro e w1 ⟨rfl, rfl⟩; first | rw [Hst.out] | rw [Hiv.out] | rw [Hp1.out] | rw [Hp2.out] | rw [Hp3.out])
                  | ((with_reducible refine (specIsVal ⟨f4_0, f4_1⟩ e _).mono ?_); rintro e w2 ⟨rfl, hb5⟩; rw [Hiv.out]; replace X := Lib.hid (X.out.below hb5); clear hb5; obtain ⟨x0, x1, x2, x3, x4, x5, x6, x7, x8, x9, x10, x11⟩ := (X.out.c12 (b := w.heap.size) (v0 := .int .i64 f0) (v1 := .int .i64 f1) (v2 := .slice A2 n2 c2) (v3 := .int .i64 4) (v4 := .int .i64 f4_0) (v5 := .int .i64 f4_1) (v6 := .slice A5 n5 c5) (v7 := .slice A6 n6 c6) (v8 := .int .i64 f7) (v9 := .int .i64 f8) (v10 := .int .i64 f9) (v11 := .int .i64 f10) (by repeat (first | exact List.mem_cons_self | refine List.mem_cons_of_mem _ ?_)))))
                go_ret
                exact GivesBool.of HN.out X.out.low
          · skip
            have HN : Hid (false = (promV 4 ⟨f4_0, f4_1⟩ f7 f8 f9 n5 n6 e && restProm f1 n2)) := Lib.hid (by simp [promV, restProm, nov, nowh, somew, iv, p1, p2, p3, h40])
            clear iv p1 p2 p3
            go_enter Try.func57, Try.ntmps57
            go_wp2_with (first
              | ((with_reducible refine (specInB _ _ _ _).mono ?_); rintro e w1 ⟨rfl, rfl⟩; first | rw [Hst.out] | rw [Hiv.out] | rw [Hp1.out] | rw [Hp2.out] | rw [Hp3.out])
              | ((with_reducible refine (specIsVal ⟨f4_0, f4_1⟩ e _).mono ?_); rintro e w2 ⟨rfl, hb5⟩; rw [Hiv.out]; replace X := Lib.hid (X.out.below hb5); clear hb5; obtain ⟨x0, x1, x2, x3, x4, x5, x6, x7, x8, x9, x10, x11⟩ := (X.out.c12 (b := w.heap.size) (v0 := .int .i64 f0) (v1 := .int .i64 f1) (v2 := .slice A2 n2 c2) (v3 := .int .i64 4) (v4 := .int .i64 f4_0) (v5 := .int .i64 f4_1) (v6 := .slice A5 n5 c5) (v7 := .slice A6 n6 c6) (v8 := .int .i64 f7) (v9 := .int .i64 f8) (v10 := .int .i64 f9) (v11 := .int .i64 f10) (by repeat (first | exact List.mem_cons_self | refine List.mem_cons_of_mem _ ?_)))))
            go_ret
            exact GivesBool.of HN.out X.out.low
end Go.Proofs.Ytfgijebgnkikpaa
