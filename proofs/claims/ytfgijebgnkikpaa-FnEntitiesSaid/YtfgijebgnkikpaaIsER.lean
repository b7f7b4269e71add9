/- The reference's IsEntity. -/
import Derived.Test.YtfgijebgnkikpaaIsPR
import Derived.LoopTactic
import Derived.Lib.Hide
import Derived.Deep.QuietTactic
import Derived.BigQuiet
import Derived.Deep.RegionWith
import Derived.Handy
namespace Go.Proofs.Ytfgijebgnkikpaa
open Go.RowKit
set_option linter.unusedVariables false
set_option linter.unusedSimpArgs false
set_option maxRecDepth 100000 in
set_option maxHeartbeats 4000000 in
theorem specProm0 (f0 : Int) (f1 : Int) (L2 : List Dat) (A2 : Option Addr) (n2 c2 : Nat) (f3 : Int) (f4_0 : Int) (f4_1 : Int) (L5 : List Dat) (A5 : Option Addr) (n5 c5 : Nat) (L6 : List Dat) (A6 : Option Addr) (n6 c6 : Nat) (f7 : Int) (f8 : Int) (f9 : Int) (f10 : Int) (e : Int) (w : World) (hl2 : Lies w (.l L2) [.slice A2 n2 c2]) (ht2 : ∀ x ∈ L2, Has tyValue x) (hn2 : n2 ≤ 1099511627776) (hl5 : Lies w (.l L5) [.slice A5 n5 c5]) (ht5 : ∀ x ∈ L5, Has tySent x) (hn5 : n5 ≤ 1099511627776) (hl6 : Lies w (.l L6) [.slice A6 n6 c6]) (ht6 : ∀ x ∈ L6, Has tyAsker x) (hn6 : n6 ≤ 1099511627776) (k1 : ¬ f3 = 1) (k2 : ¬ f3 = 2) (k3 : ¬ f3 = 3) (k4 : ¬ f3 = 4) : Calls Try.prog 57 #[.agg #[.int .i64 f0, .int .i64 f1, .slice A2 n2 c2, .int .i64 f3, .int .i64 f4_0, .int .i64 f4_1, .slice A5 n5 c5, .slice A6 n6 c6, .int .i64 f7, .int .i64 f8, .int .i64 f9, .int .i64 f10], .int .i64 e] w (GivesBool (promV f3 ⟨f4_0, f4_1⟩ f7 f8 f9 n5 n6 e && restProm f1 n2) w) := by
  have X := Lib.hid (((((St.start w).lie hl2).lie hl5).lie hl6).push #[.int .i64 f0, .int .i64 f1, .slice A2 n2 c2, .int .i64 f3, .int .i64 f4_0, .int .i64 f4_1, .slice A5 n5 c5, .slice A6 n6 c6, .int .i64 f7, .int .i64 f8, .int .i64 f9, .int .i64 f10] 30)
  clear hl2 hl5 hl6
  have HN : Hid (false = (promV f3 ⟨f4_0, f4_1⟩ f7 f8 f9 n5 n6 e && restProm f1 n2)) := Lib.hid (by simp only [promV, if_neg k1, if_neg k2, if_neg k3, if_neg k4, Bool.false_and])
  have hd : Hid (decide (1 ≤ f3 ∧ f3 ≤ 4) = false) := Lib.hid (decide_eq_false (by omega))
  have b2 : (f3 == 2) = false := by simpa using k2
  have b3 : (f3 == 3) = false := by simpa using k3
  have b4 : (f3 == 4) = false := by simpa using k4
  go_enter Try.func57, Try.ntmps57
  go_wp2_with ((with_reducible refine (specInB _ _ _ _).mono ?_); rintro e w1 ⟨rfl, rfl⟩; rw [hd.out])
  go_ret
  exact GivesBool.of HN.out X.out.low
theorem specProm (f0 : Int) (f1 : Int) (L2 : List Dat) (A2 : Option Addr) (n2 c2 : Nat) (f3 : Int) (f4_0 : Int) (f4_1 : Int) (L5 : List Dat) (A5 : Option Addr) (n5 c5 : Nat) (L6 : List Dat) (A6 : Option Addr) (n6 c6 : Nat) (f7 : Int) (f8 : Int) (f9 : Int) (f10 : Int) (e : Int) (w : World) (hl2 : Lies w (.l L2) [.slice A2 n2 c2]) (ht2 : ∀ x ∈ L2, Has tyValue x) (hn2 : n2 ≤ 1099511627776) (hl5 : Lies w (.l L5) [.slice A5 n5 c5]) (ht5 : ∀ x ∈ L5, Has tySent x) (hn5 : n5 ≤ 1099511627776) (hl6 : Lies w (.l L6) [.slice A6 n6 c6]) (ht6 : ∀ x ∈ L6, Has tyAsker x) (hn6 : n6 ≤ 1099511627776) : Calls Try.prog 57 #[.agg #[.int .i64 f0, .int .i64 f1, .slice A2 n2 c2, .int .i64 f3, .int .i64 f4_0, .int .i64 f4_1, .slice A5 n5 c5, .slice A6 n6 c6, .int .i64 f7, .int .i64 f8, .int .i64 f9, .int .i64 f10], .int .i64 e] w (GivesBool (promV f3 ⟨f4_0, f4_1⟩ f7 f8 f9 n5 n6 e && restProm f1 n2) w) := by
  by_cases q1 : f3 = 1
  · subst q1
    exact specProm1 f0 f1 L2 A2 n2 c2 f4_0 f4_1 L5 A5 n5 c5 L6 A6 n6 c6 f7 f8 f9 f10 e w hl2 ht2 hn2 hl5 ht5 hn5 hl6 ht6 hn6
  · skip
    by_cases q2 : f3 = 2
    · subst q2
      exact specProm2 f0 f1 L2 A2 n2 c2 f4_0 f4_1 L5 A5 n5 c5 L6 A6 n6 c6 f7 f8 f9 f10 e w hl2 ht2 hn2 hl5 ht5 hn5 hl6 ht6 hn6
    · skip
      by_cases q3 : f3 = 3
      · subst q3
        exact specProm3 f0 f1 L2 A2 n2 c2 f4_0 f4_1 L5 A5 n5 c5 L6 A6 n6 c6 f7 f8 f9 f10 e w hl2 ht2 hn2 hl5 ht5 hn5 hl6 ht6 hn6
      · skip
        by_cases q4 : f3 = 4
        · subst q4
          exact specProm4 f0 f1 L2 A2 n2 c2 f4_0 f4_1 L5 A5 n5 c5 L6 A6 n6 c6 f7 f8 f9 f10 e w hl2 ht2 hn2 hl5 ht5 hn5 hl6 ht6 hn6
        · skip
          exact specProm0 f0 f1 L2 A2 n2 c2 f3 f4_0 f4_1 L5 A5 n5 c5 L6 A6 n6 c6 f7 f8 f9 f10 e w hl2 ht2 hn2 hl5 ht5 hn5 hl6 ht6 hn6 q1 q2 q3 q4
set_option maxRecDepth 100000 in
set_option maxHeartbeats 40000000 in
theorem specEnt2 (f1 : Int) (L2 : List Dat) (A2 : Option Addr) (n2 c2 : Nat) (f3 : Int) (f4_0 : Int) (f4_1 : Int) (L5 : List Dat) (A5 : Option Addr) (n5 c5 : Nat) (L6 : List Dat) (A6 : Option Addr) (n6 c6 : Nat) (f7 : Int) (f8 : Int) (f9 : Int) (f10 : Int) (e : Int) (w : World) (hl2 : Lies w (.l L2) [.slice A2 n2 c2]) (ht2 : ∀ x ∈ L2, Has tyValue x) (hn2 : n2 ≤ 1099511627776) (hl5 : Lies w (.l L5) [.slice A5 n5 c5]) (ht5 : ∀ x ∈ L5, Has tySent x) (hn5 : n5 ≤ 1099511627776) (hl6 : Lies w (.l L6) [.slice A6 n6 c6]) (ht6 : ∀ x ∈ L6, Has tyAsker x) (hn6 : n6 ≤ 1099511627776) : Calls Try.prog 19 #[.agg #[.int .i64 2, .int .i64 f1, .slice A2 n2 c2, .int .i64 f3, .int .i64 f4_0, .int .i64 f4_1, .slice A5 n5 c5, .slice A6 n6 c6, .int .i64 f7, .int .i64 f8, .int .i64 f9, .int .i64 f10], .int .i64 e] w (GivesBool (entB 2 f1 (vs L2) n2 f3 f4_0 f4_1 n5 n6 f7 f8 f9 f10 e) w) := by
  have X := Lib.hid (((((St.start w).lie hl2).lie hl5).lie hl6).push #[.int .i64 2, .int .i64 f1, .slice A2 n2 c2, .int .i64 f3, .int .i64 f4_0, .int .i64 f4_1, .slice A5 n5 c5, .slice A6 n6 c6, .int .i64 f7, .int .i64 f8, .int .i64 f9, .int .i64 f10] 30)
  clear hl2 hl5 hl6
  rcases sn : decide (0 ≤ f10 ∧ f10 ≤ 999999) with _ | _
  · have Hsn : Hid (decide (0 ≤ f10 ∧ f10 ≤ 999999) = false) := Lib.hid sn
    by_cases ef3 : f3 = 0
    · subst ef3
      by_cases ef4_0 : f4_0 = 0
      · subst ef4_0
        by_cases ef4_1 : f4_1 = 0
        · subst ef4_1
          by_cases h5 : (0 : Int) < n5
          · have bn5 : ((n5 : Int) == 0) = false := by rw [beq_eq_false_iff_ne]; omega
            have HN : Hid (false = entB 2 f1 (vs L2) n2 0 0 0 n5 n6 f7 f8 f9 f10 e) := Lib.hid (by have zn5 : ¬ n5 = 0 := (by omega); simp [entB, sentB, objV, restObj, restProx, nov, somew, sn, zn5])
            clear sn
            go_enter Try.func19, Try.ntmps19
            go_wp2_with (first
              | ((with_reducible refine (specInB _ _ _ _).mono ?_); rintro e w1 ⟨rfl, rfl⟩; first | rw [Hsn.out]))
            go_ret
            exact GivesBool.of HN.out X.out.low
          · have bn5 : ((n5 : Int) == 0) = true := by rw [beq_iff_eq]; omega
            by_cases h6 : (0 : Int) < n6
            · have bn6 : ((n6 : Int) == 0) = false := by rw [beq_eq_false_iff_ne]; omega
              have HN : Hid (false = entB 2 f1 (vs L2) n2 0 0 0 n5 n6 f7 f8 f9 f10 e) := Lib.hid (by have zn5 : n5 = 0 := (by omega); have zn6 : ¬ n6 = 0 := (by omega); simp [entB, sentB, objV, restObj, restProx, nov, somew, sn, zn5, zn6])
              clear sn
              go_enter Try.func19, Try.ntmps19
              go_wp2_with (first
                | ((with_reducible refine (specInB _ _ _ _).mono ?_); rintro e w1 ⟨rfl, rfl⟩; first | rw [Hsn.out]))
              go_ret
              exact GivesBool.of HN.out X.out.low
            · have bn6 : ((n6 : Int) == 0) = true := by rw [beq_iff_eq]; omega
              have HN : Hid (false = entB 2 f1 (vs L2) n2 0 0 0 n5 n6 f7 f8 f9 f10 e) := Lib.hid (by have zn5 : n5 = 0 := (by omega); have zn6 : n6 = 0 := (by omega); simp [entB, sentB, objV, restObj, restProx, nov, somew, sn, zn5, zn6])
              clear sn
              go_enter Try.func19, Try.ntmps19
              go_wp2_with (first
                | ((with_reducible refine (specInB _ _ _ _).mono ?_); rintro e w1 ⟨rfl, rfl⟩; first | rw [Hsn.out]))
              go_ret
              exact GivesBool.of HN.out X.out.low
        · skip
          have bf4_1 : (f4_1 == 0) = false := by simpa using ef4_1
          have df4_1 : (f4_1 != 0) = true := by simpa using ef4_1
          have HN : Hid (false = entB 2 f1 (vs L2) n2 0 0 f4_1 n5 n6 f7 f8 f9 f10 e) := Lib.hid (by simp [entB, sentB, objV, restObj, restProx, nov, somew, sn, ef4_1])
          clear sn
          go_enter Try.func19, Try.ntmps19
          go_wp2_with (first
            | ((with_reducible refine (specInB _ _ _ _).mono ?_); rintro e w1 ⟨rfl, rfl⟩; first | rw [Hsn.out]))
          go_ret
          exact GivesBool.of HN.out X.out.low
      · skip
        have bf4_0 : (f4_0 == 0) = false := by simpa using ef4_0
        have df4_0 : (f4_0 != 0) = true := by simpa using ef4_0
        have HN : Hid (false = entB 2 f1 (vs L2) n2 0 f4_0 f4_1 n5 n6 f7 f8 f9 f10 e) := Lib.hid (by simp [entB, sentB, objV, restObj, restProx, nov, somew, sn, ef4_0])
        clear sn
        go_enter Try.func19, Try.ntmps19
        go_wp2_with (first
          | ((with_reducible refine (specInB _ _ _ _).mono ?_); rintro e w1 ⟨rfl, rfl⟩; first | rw [Hsn.out]))
        go_ret
        exact GivesBool.of HN.out X.out.low
    · skip
      have bf3 : (f3 == 0) = false := by simpa using ef3
      have df3 : (f3 != 0) = true := by simpa using ef3
      have HN : Hid (false = entB 2 f1 (vs L2) n2 f3 f4_0 f4_1 n5 n6 f7 f8 f9 f10 e) := Lib.hid (by simp [entB, sentB, objV, restObj, restProx, nov, somew, sn, ef3])
      clear sn
      go_enter Try.func19, Try.ntmps19
      go_wp2_with (first
        | ((with_reducible refine (specInB _ _ _ _).mono ?_); rintro e w1 ⟨rfl, rfl⟩; first | rw [Hsn.out]))
      go_ret
      exact GivesBool.of HN.out X.out.low
  · have Hsn : Hid (decide (0 ≤ f10 ∧ f10 ≤ 999999) = true) := Lib.hid sn
    by_cases ef3 : f3 = 0
    · subst ef3
      by_cases ef4_0 : f4_0 = 0
      · subst ef4_0
        by_cases ef4_1 : f4_1 = 0
        · subst ef4_1
          by_cases h5 : (0 : Int) < n5
          · have bn5 : ((n5 : Int) == 0) = false := by rw [beq_eq_false_iff_ne]; omega
            obtain ⟨pv, hpv⟩ : ∃ pv, (promV 0 ⟨0, 0⟩ f7 f8 f9 n5 n6 e && restProm f1 n2) = pv := ⟨_, rfl⟩
            have HPM := Lib.hid hpv
            have HN : Hid (pv = entB 2 f1 (vs L2) n2 0 0 0 n5 n6 f7 f8 f9 f10 e) := Lib.hid (by rw [← hpv]; simp only [entB, sentB]; simp only [Int.reduceEq, if_true, if_false, sn, Bool.true_and])
            clear hpv sn
            go_enter Try.func19, Try.ntmps19
            go_wp2_with (first
              | ((with_reducible refine (specInB _ _ _ _).mono ?_); rintro e w1 ⟨rfl, rfl⟩; first | rw [Hsn.out])
              | ((with_reducible refine (specProm 2 f1 L2 A2 n2 c2 0 0 0 L5 A5 n5 c5 L6 A6 n6 c6 f7 f8 f9 f10 e _ (X.out.lies (d := .l L2) (cs := [.slice A2 n2 c2]) (by repeat (first | exact List.mem_cons_self | refine List.mem_cons_of_mem _ ?_))) ht2 hn2 (X.out.lies (d := .l L5) (cs := [.slice A5 n5 c5]) (by repeat (first | exact List.mem_cons_self | refine List.mem_cons_of_mem _ ?_))) ht5 hn5 (X.out.lies (d := .l L6) (cs := [.slice A6 n6 c6]) (by repeat (first | exact List.mem_cons_self | refine List.mem_cons_of_mem _ ?_))) ht6 hn6).mono ?_); rintro e w3 ⟨rfl, hb5⟩; rw [HPM.out]; replace X := Lib.hid (X.out.below hb5); clear hb5))
            go_ret
            exact GivesBool.of HN.out X.out.low
          · have bn5 : ((n5 : Int) == 0) = true := by rw [beq_iff_eq]; omega
            by_cases h6 : (0 : Int) < n6
            · have bn6 : ((n6 : Int) == 0) = false := by rw [beq_eq_false_iff_ne]; omega
              obtain ⟨pv, hpv⟩ : ∃ pv, (promV 0 ⟨0, 0⟩ f7 f8 f9 n5 n6 e && restProm f1 n2) = pv := ⟨_, rfl⟩
              have HPM := Lib.hid hpv
              have HN : Hid (pv = entB 2 f1 (vs L2) n2 0 0 0 n5 n6 f7 f8 f9 f10 e) := Lib.hid (by rw [← hpv]; simp only [entB, sentB]; simp only [Int.reduceEq, if_true, if_false, sn, Bool.true_and])
              clear hpv sn
              go_enter Try.func19, Try.ntmps19
              go_wp2_with (first
                | ((with_reducible refine (specInB _ _ _ _).mono ?_); rintro e w1 ⟨rfl, rfl⟩; first | rw [Hsn.out])
                | ((with_reducible refine (specProm 2 f1 L2 A2 n2 c2 0 0 0 L5 A5 n5 c5 L6 A6 n6 c6 f7 f8 f9 f10 e _ (X.out.lies (d := .l L2) (cs := [.slice A2 n2 c2]) (by repeat (first | exact List.mem_cons_self | refine List.mem_cons_of_mem _ ?_))) ht2 hn2 (X.out.lies (d := .l L5) (cs := [.slice A5 n5 c5]) (by repeat (first | exact List.mem_cons_self | refine List.mem_cons_of_mem _ ?_))) ht5 hn5 (X.out.lies (d := .l L6) (cs := [.slice A6 n6 c6]) (by repeat (first | exact List.mem_cons_self | refine List.mem_cons_of_mem _ ?_))) ht6 hn6).mono ?_); rintro e w3 ⟨rfl, hb5⟩; rw [HPM.out]; replace X := Lib.hid (X.out.below hb5); clear hb5))
              go_ret
              exact GivesBool.of HN.out X.out.low
            · have bn6 : ((n6 : Int) == 0) = true := by rw [beq_iff_eq]; omega
              obtain ⟨pv, hpv⟩ : ∃ pv, (promV 0 ⟨0, 0⟩ f7 f8 f9 n5 n6 e && restProm f1 n2) = pv := ⟨_, rfl⟩
              have HPM := Lib.hid hpv
              have HN : Hid (pv = entB 2 f1 (vs L2) n2 0 0 0 n5 n6 f7 f8 f9 f10 e) := Lib.hid (by rw [← hpv]; simp only [entB, sentB]; simp only [Int.reduceEq, if_true, if_false, sn, Bool.true_and])
              clear hpv sn
              go_enter Try.func19, Try.ntmps19
              go_wp2_with (first
                | ((with_reducible refine (specInB _ _ _ _).mono ?_); rintro e w1 ⟨rfl, rfl⟩; first | rw [Hsn.out])
                | ((with_reducible refine (specProm 2 f1 L2 A2 n2 c2 0 0 0 L5 A5 n5 c5 L6 A6 n6 c6 f7 f8 f9 f10 e _ (X.out.lies (d := .l L2) (cs := [.slice A2 n2 c2]) (by repeat (first | exact List.mem_cons_self | refine List.mem_cons_of_mem _ ?_))) ht2 hn2 (X.out.lies (d := .l L5) (cs := [.slice A5 n5 c5]) (by repeat (first | exact List.mem_cons_self | refine List.mem_cons_of_mem _ ?_))) ht5 hn5 (X.out.lies (d := .l L6) (cs := [.slice A6 n6 c6]) (by repeat (first | exact List.mem_cons_self | refine List.mem_cons_of_mem _ ?_))) ht6 hn6).mono ?_); rintro e w3 ⟨rfl, hb5⟩; rw [HPM.out]; replace X := Lib.hid (X.out.below hb5); clear hb5))
              go_ret
              exact GivesBool.of HN.out X.out.low
        · skip
          have bf4_1 : (f4_1 == 0) = false := by simpa using ef4_1
          have df4_1 : (f4_1 != 0) = true := by simpa using ef4_1
          obtain ⟨pv, hpv⟩ : ∃ pv, (promV 0 ⟨0, f4_1⟩ f7 f8 f9 n5 n6 e && restProm f1 n2) = pv := ⟨_, rfl⟩
          have HPM := Lib.hid hpv
          have HN : Hid (pv = entB 2 f1 (vs L2) n2 0 0 f4_1 n5 n6 f7 f8 f9 f10 e) := Lib.hid (by rw [← hpv]; simp only [entB, sentB]; simp only [Int.reduceEq, if_true, if_false, sn, Bool.true_and])
          clear hpv sn
          go_enter Try.func19, Try.ntmps19
          go_wp2_with (first
            | ((with_reducible refine (specInB _ _ _ _).mono ?_); rintro e w1 ⟨rfl, rfl⟩; first | rw [Hsn.out])
            | ((with_reducible refine (specProm 2 f1 L2 A2 n2 c2 0 0 f4_1 L5 A5 n5 c5 L6 A6 n6 c6 f7 f8 f9 f10 e _ (X.out.lies (d := .l L2) (cs := [.slice A2 n2 c2]) (by repeat (first | exact List.mem_cons_self | refine List.mem_cons_of_mem _ ?_))) ht2 hn2 (X.out.lies (d := .l L5) (cs := [.slice A5 n5 c5]) (by repeat (first | exact List.mem_cons_self | refine List.mem_cons_of_mem _ ?_))) ht5 hn5 (X.out.lies (d := .l L6) (cs := [.slice A6 n6 c6]) (by repeat (first | exact List.mem_cons_self | refine List.mem_cons_of_mem _ ?_))) ht6 hn6).mono ?_); rintro e w3 ⟨rfl, hb5⟩; rw [HPM.out]; replace X := Lib.hid (X.out.below hb5); clear hb5))
          go_ret
          exact GivesBool.of HN.out X.out.low
      · skip
        have bf4_0 : (f4_0 == 0) = false := by simpa using ef4_0
        have df4_0 : (f4_0 != 0) = true := by simpa using ef4_0
        obtain ⟨pv, hpv⟩ : ∃ pv, (promV 0 ⟨f4_0, f4_1⟩ f7 f8 f9 n5 n6 e && restProm f1 n2) = pv := ⟨_, rfl⟩
        have HPM := Lib.hid hpv
        have HN : Hid (pv = entB 2 f1 (vs L2) n2 0 f4_0 f4_1 n5 n6 f7 f8 f9 f10 e) := Lib.hid (by rw [← hpv]; simp only [entB, sentB]; simp only [Int.reduceEq, if_true, if_false, sn, Bool.true_and])
        clear hpv sn
        go_enter Try.func19, Try.ntmps19
        go_wp2_with (first
          | ((with_reducible refine (specInB _ _ _ _).mono ?_); rintro e w1 ⟨rfl, rfl⟩; first | rw [Hsn.out])
          | ((with_reducible refine (specProm 2 f1 L2 A2 n2 c2 0 f4_0 f4_1 L5 A5 n5 c5 L6 A6 n6 c6 f7 f8 f9 f10 e _ (X.out.lies (d := .l L2) (cs := [.slice A2 n2 c2]) (by repeat (first | exact List.mem_cons_self | refine List.mem_cons_of_mem _ ?_))) ht2 hn2 (X.out.lies (d := .l L5) (cs := [.slice A5 n5 c5]) (by repeat (first | exact List.mem_cons_self | refine List.mem_cons_of_mem _ ?_))) ht5 hn5 (X.out.lies (d := .l L6) (cs := [.slice A6 n6 c6]) (by repeat (first | exact List.mem_cons_self | refine List.mem_cons_of_mem _ ?_))) ht6 hn6).mono ?_); rintro e w3 ⟨rfl, hb5⟩; rw [HPM.out]; replace X := Lib.hid (X.out.below hb5); clear hb5))
        go_ret
        exact GivesBool.of HN.out X.out.low
    · skip
      have bf3 : (f3 == 0) = false := by simpa using ef3
      have df3 : (f3 != 0) = true := by simpa using ef3
      obtain ⟨pv, hpv⟩ : ∃ pv, (promV f3 ⟨f4_0, f4_1⟩ f7 f8 f9 n5 n6 e && restProm f1 n2) = pv := ⟨_, rfl⟩
      have HPM := Lib.hid hpv
      have HN : Hid (pv = entB 2 f1 (vs L2) n2 f3 f4_0 f4_1 n5 n6 f7 f8 f9 f10 e) := Lib.hid (by rw [← hpv]; simp only [entB, sentB]; simp only [Int.reduceEq, if_true, if_false, sn, Bool.true_and])
      clear hpv sn
      go_enter Try.func19, Try.ntmps19
      go_wp2_with (first
        | ((with_reducible refine (specInB _ _ _ _).mono ?_); rintro e w1 ⟨rfl, rfl⟩; first | rw [Hsn.out])
        | ((with_reducible refine (specProm 2 f1 L2 A2 n2 c2 f3 f4_0 f4_1 L5 A5 n5 c5 L6 A6 n6 c6 f7 f8 f9 f10 e _ (X.out.lies (d := .l L2) (cs := [.slice A2 n2 c2]) (by repeat (first | exact List.mem_cons_self | refine List.mem_cons_of_mem _ ?_))) ht2 hn2 (X.out.lies (d := .l L5) (cs := [.slice A5 n5 c5]) (by repeat (first | exact List.mem_cons_self | refine List.mem_cons_of_mem _ ?_))) ht5 hn5 (X.out.lies (d := .l L6) (cs := [.slice A6 n6 c6]) (by repeat (first | exact List.mem_cons_self | refine List.mem_cons_of_mem _ ?_))) ht6 hn6).mono ?_); rintro e w3 ⟨rfl, hb5⟩; rw [HPM.out]; replace X := Lib.hid (X.out.below hb5); clear hb5))
      go_ret
      exact GivesBool.of HN.out X.out.low
set_option maxRecDepth 100000 in
set_option maxHeartbeats 40000000 in
theorem specEnt0 (f0 : Int) (f1 : Int) (L2 : List Dat) (A2 : Option Addr) (n2 c2 : Nat) (f3 : Int) (f4_0 : Int) (f4_1 : Int) (L5 : List Dat) (A5 : Option Addr) (n5 c5 : Nat) (L6 : List Dat) (A6 : Option Addr) (n6 c6 : Nat) (f7 : Int) (f8 : Int) (f9 : Int) (f10 : Int) (e : Int) (w : World) (hl2 : Lies w (.l L2) [.slice A2 n2 c2]) (ht2 : ∀ x ∈ L2, Has tyValue x) (hn2 : n2 ≤ 1099511627776) (hl5 : Lies w (.l L5) [.slice A5 n5 c5]) (ht5 : ∀ x ∈ L5, Has tySent x) (hn5 : n5 ≤ 1099511627776) (hl6 : Lies w (.l L6) [.slice A6 n6 c6]) (ht6 : ∀ x ∈ L6, Has tyAsker x) (hn6 : n6 ≤ 1099511627776) (k1 : ¬ f0 = 1) (k2 : ¬ f0 = 2) (k3 : ¬ f0 = 3) : Calls Try.prog 19 #[.agg #[.int .i64 f0, .int .i64 f1, .slice A2 n2 c2, .int .i64 f3, .int .i64 f4_0, .int .i64 f4_1, .slice A5 n5 c5, .slice A6 n6 c6, .int .i64 f7, .int .i64 f8, .int .i64 f9, .int .i64 f10], .int .i64 e] w (GivesBool (entB f0 f1 (vs L2) n2 f3 f4_0 f4_1 n5 n6 f7 f8 f9 f10 e) w) := by
  have bk1 : (f0 == 1) = false := by simpa using k1
  have bk2 : (f0 == 2) = false := by simpa using k2
  have bk3 : (f0 == 3) = false := by simpa using k3
  have X := Lib.hid (((((St.start w).lie hl2).lie hl5).lie hl6).push #[.int .i64 f0, .int .i64 f1, .slice A2 n2 c2, .int .i64 f3, .int .i64 f4_0, .int .i64 f4_1, .slice A5 n5 c5, .slice A6 n6 c6, .int .i64 f7, .int .i64 f8, .int .i64 f9, .int .i64 f10] 30)
  clear hl2 hl5 hl6
  rcases sn : decide (0 ≤ f10 ∧ f10 ≤ 999999) with _ | _
  · have Hsn : Hid (decide (0 ≤ f10 ∧ f10 ≤ 999999) = false) := Lib.hid sn
    by_cases ef3 : f3 = 0
    · subst ef3
      by_cases ef4_0 : f4_0 = 0
      · subst ef4_0
        by_cases ef4_1 : f4_1 = 0
        · subst ef4_1
          by_cases h5 : (0 : Int) < n5
          · have bn5 : ((n5 : Int) == 0) = false := by rw [beq_eq_false_iff_ne]; omega
            have HN : Hid (false = entB f0 f1 (vs L2) n2 0 0 0 n5 n6 f7 f8 f9 f10 e) := Lib.hid (by have zn5 : ¬ n5 = 0 := (by omega); simp [entB, sentB, objV, restObj, restProx, nov, somew, k1, k2, k3, sn, zn5])
            clear sn
            go_enter Try.func19, Try.ntmps19
            go_wp2_with (first
              | ((with_reducible refine (specInB _ _ _ _).mono ?_); rintro e w1 ⟨rfl, rfl⟩; first | rw [Hsn.out]))
            go_ret
            exact GivesBool.of HN.out X.out.low
          · have bn5 : ((n5 : Int) == 0) = true := by rw [beq_iff_eq]; omega
            by_cases h6 : (0 : Int) < n6
            · have bn6 : ((n6 : Int) == 0) = false := by rw [beq_eq_false_iff_ne]; omega
              have HN : Hid (false = entB f0 f1 (vs L2) n2 0 0 0 n5 n6 f7 f8 f9 f10 e) := Lib.hid (by have zn5 : n5 = 0 := (by omega); have zn6 : ¬ n6 = 0 := (by omega); simp [entB, sentB, objV, restObj, restProx, nov, somew, k1, k2, k3, sn, zn5, zn6])
              clear sn
              go_enter Try.func19, Try.ntmps19
              go_wp2_with (first
                | ((with_reducible refine (specInB _ _ _ _).mono ?_); rintro e w1 ⟨rfl, rfl⟩; first | rw [Hsn.out]))
              go_ret
              exact GivesBool.of HN.out X.out.low
            · have bn6 : ((n6 : Int) == 0) = true := by rw [beq_iff_eq]; omega
              have HN : Hid (false = entB f0 f1 (vs L2) n2 0 0 0 n5 n6 f7 f8 f9 f10 e) := Lib.hid (by have zn5 : n5 = 0 := (by omega); have zn6 : n6 = 0 := (by omega); simp [entB, sentB, objV, restObj, restProx, nov, somew, k1, k2, k3, sn, zn5, zn6])
              clear sn
              go_enter Try.func19, Try.ntmps19
              go_wp2_with (first
                | ((with_reducible refine (specInB _ _ _ _).mono ?_); rintro e w1 ⟨rfl, rfl⟩; first | rw [Hsn.out]))
              go_ret
              exact GivesBool.of HN.out X.out.low
        · skip
          have bf4_1 : (f4_1 == 0) = false := by simpa using ef4_1
          have df4_1 : (f4_1 != 0) = true := by simpa using ef4_1
          have HN : Hid (false = entB f0 f1 (vs L2) n2 0 0 f4_1 n5 n6 f7 f8 f9 f10 e) := Lib.hid (by simp [entB, sentB, objV, restObj, restProx, nov, somew, k1, k2, k3, sn, ef4_1])
          clear sn
          go_enter Try.func19, Try.ntmps19
          go_wp2_with (first
            | ((with_reducible refine (specInB _ _ _ _).mono ?_); rintro e w1 ⟨rfl, rfl⟩; first | rw [Hsn.out]))
          go_ret
          exact GivesBool.of HN.out X.out.low
      · skip
        have bf4_0 : (f4_0 == 0) = false := by simpa using ef4_0
        have df4_0 : (f4_0 != 0) = true := by simpa using ef4_0
        have HN : Hid (false = entB f0 f1 (vs L2) n2 0 f4_0 f4_1 n5 n6 f7 f8 f9 f10 e) := Lib.hid (by simp [entB, sentB, objV, restObj, restProx, nov, somew, k1, k2, k3, sn, ef4_0])
        clear sn
        go_enter Try.func19, Try.ntmps19
        go_wp2_with (first
          | ((with_reducible refine (specInB _ _ _ _).mono ?_); rintro e w1 ⟨rfl, rfl⟩; first | rw [Hsn.out]))
        go_ret
        exact GivesBool.of HN.out X.out.low
    · skip
      have bf3 : (f3 == 0) = false := by simpa using ef3
      have df3 : (f3 != 0) = true := by simpa using ef3
      have HN : Hid (false = entB f0 f1 (vs L2) n2 f3 f4_0 f4_1 n5 n6 f7 f8 f9 f10 e) := Lib.hid (by simp [entB, sentB, objV, restObj, restProx, nov, somew, k1, k2, k3, sn, ef3])
      clear sn
      go_enter Try.func19, Try.ntmps19
      go_wp2_with (first
        | ((with_reducible refine (specInB _ _ _ _).mono ?_); rintro e w1 ⟨rfl, rfl⟩; first | rw [Hsn.out]))
      go_ret
      exact GivesBool.of HN.out X.out.low
  · have Hsn : Hid (decide (0 ≤ f10 ∧ f10 ≤ 999999) = true) := Lib.hid sn
    by_cases ef3 : f3 = 0
    · subst ef3
      by_cases ef4_0 : f4_0 = 0
      · subst ef4_0
        by_cases ef4_1 : f4_1 = 0
        · subst ef4_1
          by_cases h5 : (0 : Int) < n5
          · have bn5 : ((n5 : Int) == 0) = false := by rw [beq_eq_false_iff_ne]; omega
            have HN : Hid (false = entB f0 f1 (vs L2) n2 0 0 0 n5 n6 f7 f8 f9 f10 e) := Lib.hid (by have zn5 : ¬ n5 = 0 := (by omega); simp [entB, sentB, objV, restObj, restProx, nov, somew, k1, k2, k3, sn, zn5])
            clear sn
            go_enter Try.func19, Try.ntmps19
            go_wp2_with (first
              | ((with_reducible refine (specInB _ _ _ _).mono ?_); rintro e w1 ⟨rfl, rfl⟩; first | rw [Hsn.out]))
            go_ret
            exact GivesBool.of HN.out X.out.low
          · have bn5 : ((n5 : Int) == 0) = true := by rw [beq_iff_eq]; omega
            by_cases h6 : (0 : Int) < n6
            · have bn6 : ((n6 : Int) == 0) = false := by rw [beq_eq_false_iff_ne]; omega
              have HN : Hid (false = entB f0 f1 (vs L2) n2 0 0 0 n5 n6 f7 f8 f9 f10 e) := Lib.hid (by have zn5 : n5 = 0 := (by omega); have zn6 : ¬ n6 = 0 := (by omega); simp [entB, sentB, objV, restObj, restProx, nov, somew, k1, k2, k3, sn, zn5, zn6])
              clear sn
              go_enter Try.func19, Try.ntmps19
              go_wp2_with (first
                | ((with_reducible refine (specInB _ _ _ _).mono ?_); rintro e w1 ⟨rfl, rfl⟩; first | rw [Hsn.out]))
              go_ret
              exact GivesBool.of HN.out X.out.low
            · have bn6 : ((n6 : Int) == 0) = true := by rw [beq_iff_eq]; omega
              have HN : Hid (false = entB f0 f1 (vs L2) n2 0 0 0 n5 n6 f7 f8 f9 f10 e) := Lib.hid (by have zn5 : n5 = 0 := (by omega); have zn6 : n6 = 0 := (by omega); simp [entB, sentB, objV, restObj, restProx, nov, somew, k1, k2, k3, sn, zn5, zn6])
              clear sn
              go_enter Try.func19, Try.ntmps19
              go_wp2_with (first
                | ((with_reducible refine (specInB _ _ _ _).mono ?_); rintro e w1 ⟨rfl, rfl⟩; first | rw [Hsn.out]))
              go_ret
              exact GivesBool.of HN.out X.out.low
        · skip
          have bf4_1 : (f4_1 == 0) = false := by simpa using ef4_1
          have df4_1 : (f4_1 != 0) = true := by simpa using ef4_1
          have HN : Hid (false = entB f0 f1 (vs L2) n2 0 0 f4_1 n5 n6 f7 f8 f9 f10 e) := Lib.hid (by simp [entB, sentB, objV, restObj, restProx, nov, somew, k1, k2, k3, sn, ef4_1])
          clear sn
          go_enter Try.func19, Try.ntmps19
          go_wp2_with (first
            | ((with_reducible refine (specInB _ _ _ _).mono ?_); rintro e w1 ⟨rfl, rfl⟩; first | rw [Hsn.out]))
          go_ret
          exact GivesBool.of HN.out X.out.low
      · skip
        have bf4_0 : (f4_0 == 0) = false := by simpa using ef4_0
        have df4_0 : (f4_0 != 0) = true := by simpa using ef4_0
        have HN : Hid (false = entB f0 f1 (vs L2) n2 0 f4_0 f4_1 n5 n6 f7 f8 f9 f10 e) := Lib.hid (by simp [entB, sentB, objV, restObj, restProx, nov, somew, k1, k2, k3, sn, ef4_0])
        clear sn
        go_enter Try.func19, Try.ntmps19
        go_wp2_with (first
          | ((with_reducible refine (specInB _ _ _ _).mono ?_); rintro e w1 ⟨rfl, rfl⟩; first | rw [Hsn.out]))
        go_ret
        exact GivesBool.of HN.out X.out.low
    · skip
      have bf3 : (f3 == 0) = false := by simpa using ef3
      have df3 : (f3 != 0) = true := by simpa using ef3
      have HN : Hid (false = entB f0 f1 (vs L2) n2 f3 f4_0 f4_1 n5 n6 f7 f8 f9 f10 e) := Lib.hid (by simp [entB, sentB, objV, restObj, restProx, nov, somew, k1, k2, k3, sn, ef3])
      clear sn
      go_enter Try.func19, Try.ntmps19
      go_wp2_with (first
        | ((with_reducible refine (specInB _ _ _ _).mono ?_); rintro e w1 ⟨rfl, rfl⟩; first | rw [Hsn.out]))
      go_ret
      exact GivesBool.of HN.out X.out.low
end Go.Proofs.Ytfgijebgnkikpaa
