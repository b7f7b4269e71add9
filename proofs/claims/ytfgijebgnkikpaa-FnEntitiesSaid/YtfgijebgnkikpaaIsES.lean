/- The reference's IsEntity. -/
import Derived.Test.YtfgijebgnkikpaaIsPR
import Derived.LoopTactic
import Derived.Lib.Hide
import Derived.Deep.QuietTactic
import Derived.BigQuiet
import Derived.Deep.RegionWith
import Derived.Handy
namespace Go.Proofs.Ytfgijebgnkikpaa
open Go.RowKit
set_option linter.unusedVariables false
set_option linter.unusedSimpArgs false
set_option maxRecDepth 100000 in
set_option maxHeartbeats 40000000 in
theorem specEnt1 (f1 : Int) (L2 : List Dat) (A2 : Option Addr) (n2 c2 : Nat) (f3 : Int) (f4_0 : Int) (f4_1 : Int) (L5 : List Dat) (A5 : Option Addr) (n5 c5 : Nat) (L6 : List Dat) (A6 : Option Addr) (n6 c6 : Nat) (f7 : Int) (f8 : Int) (f9 : Int) (f10 : Int) (e : Int) (w : World) (hl2 : Lies w (.l L2) [.slice A2 n2 c2]) (ht2 : ∀ x ∈ L2, Has tyValue x) (hn2 : n2 ≤ 1099511627776) (hl5 : Lies w (.l L5) [.slice A5 n5 c5]) (ht5 : ∀ x ∈ L5, Has tySent x) (hn5 : n5 ≤ 1099511627776) (hl6 : Lies w (.l L6) [.slice A6 n6 c6]) (ht6 : ∀ x ∈ L6, Has tyAsker x) (hn6 : n6 ≤ 1099511627776) : Calls Try.prog 19 #[.agg #[.int .i64 1, .int .i64 f1, .slice A2 n2 c2, .int .i64 f3, .int .i64 f4_0, .int .i64 f4_1, .slice A5 n5 c5, .slice A6 n6 c6, .int .i64 f7, .int .i64 f8, .int .i64 f9, .int .i64 f10], .int .i64 e] w (GivesBool (entB 1 f1 (vs L2) n2 f3 f4_0 f4_1 n5 n6 f7 f8 f9 f10 e) w) := by
  have X := Lib.hid (((((St.start w).lie hl2).lie hl5).lie hl6).push #[.int .i64 1, .int .i64 f1, .slice A2 n2 c2, .int .i64 f3, .int .i64 f4_0, .int .i64 f4_1, .slice A5 n5 c5, .slice A6 n6 c6, .int .i64 f7, .int .i64 f8, .int .i64 f9, .int .i64 f10] 30)
  clear hl2 hl5 hl6
  rcases sn : decide (0 ≤ f10 ∧ f10 ≤ 999999) with _ | _
  · have Hsn : Hid (decide (0 ≤ f10 ∧ f10 ≤ 999999) = false) := Lib.hid sn
    by_cases ef3 : f3 = 0
    · subst ef3
      by_cases ef4_0 : f4_0 = 0
      · subst ef4_0
        by_cases ef4_1 : f4_1 = 0
        · subst ef4_1
          by_cases h5 : (0 : Int) < n5
          · have bn5 : ((n5 : Int) == 0) = false := by rw [beq_eq_false_iff_ne]; omega
            have HN : Hid (false = entB 1 f1 (vs L2) n2 0 0 0 n5 n6 f7 f8 f9 f10 e) := Lib.hid (by have zn5 : ¬ n5 = 0 := (by omega); simp [entB, sentB, objV, restObj, restProx, nov, somew, sn, zn5])
            clear sn
            go_enter Try.func19, Try.ntmps19
            go_wp2_with (first
              | ((with_reducible refine (specInB _ _ _ _).mono ?_); rintro e w1 ⟨rfl, rfl⟩; first | rw [Hsn.out]))
            go_ret
            exact GivesBool.of HN.out X.out.low
          · have bn5 : ((n5 : Int) == 0) = true := by rw [beq_iff_eq]; omega
            by_cases h6 : (0 : Int) < n6
            · have bn6 : ((n6 : Int) == 0) = false := by rw [beq_eq_false_iff_ne]; omega
              have HN : Hid (false = entB 1 f1 (vs L2) n2 0 0 0 n5 n6 f7 f8 f9 f10 e) := Lib.hid (by have zn5 : n5 = 0 := (by omega); have zn6 : ¬ n6 = 0 := (by omega); simp [entB, sentB, objV, restObj, restProx, nov, somew, sn, zn5, zn6])
              clear sn
              go_enter Try.func19, Try.ntmps19
              go_wp2_with (first
                | ((with_reducible refine (specInB _ _ _ _).mono ?_); rintro e w1 ⟨rfl, rfl⟩; first | rw [Hsn.out]))
              go_ret
              exact GivesBool.of HN.out X.out.low
            · have bn6 : ((n6 : Int) == 0) = true := by rw [beq_iff_eq]; omega
              have HN : Hid (false = entB 1 f1 (vs L2) n2 0 0 0 n5 n6 f7 f8 f9 f10 e) := Lib.hid (by have zn5 : n5 = 0 := (by omega); have zn6 : n6 = 0 := (by omega); simp [entB, sentB, objV, restObj, restProx, nov, somew, sn, zn5, zn6])
              clear sn
              go_enter Try.func19, Try.ntmps19
              go_wp2_with (first
                | ((with_reducible refine (specInB _ _ _ _).mono ?_); rintro e w1 ⟨rfl, rfl⟩; first | rw [Hsn.out]))
              go_ret
              exact GivesBool.of HN.out X.out.low
        · skip
          have bf4_1 : (f4_1 == 0) = false := by simpa using ef4_1
          have df4_1 : (f4_1 != 0) = true := by simpa using ef4_1
          have HN : Hid (false = entB 1 f1 (vs L2) n2 0 0 f4_1 n5 n6 f7 f8 f9 f10 e) := Lib.hid (by simp [entB, sentB, objV, restObj, restProx, nov, somew, sn, ef4_1])
          clear sn
          go_enter Try.func19, Try.ntmps19
          go_wp2_with (first
            | ((with_reducible refine (specInB _ _ _ _).mono ?_); rintro e w1 ⟨rfl, rfl⟩; first | rw [Hsn.out]))
          go_ret
          exact GivesBool.of HN.out X.out.low
      · skip
        have bf4_0 : (f4_0 == 0) = false := by simpa using ef4_0
        have df4_0 : (f4_0 != 0) = true := by simpa using ef4_0
        have HN : Hid (false = entB 1 f1 (vs L2) n2 0 f4_0 f4_1 n5 n6 f7 f8 f9 f10 e) := Lib.hid (by simp [entB, sentB, objV, restObj, restProx, nov, somew, sn, ef4_0])
        clear sn
        go_enter Try.func19, Try.ntmps19
        go_wp2_with (first
          | ((with_reducible refine (specInB _ _ _ _).mono ?_); rintro e w1 ⟨rfl, rfl⟩; first | rw [Hsn.out]))
        go_ret
        exact GivesBool.of HN.out X.out.low
    · skip
      have bf3 : (f3 == 0) = false := by simpa using ef3
      have df3 : (f3 != 0) = true := by simpa using ef3
      have HN : Hid (false = entB 1 f1 (vs L2) n2 f3 f4_0 f4_1 n5 n6 f7 f8 f9 f10 e) := Lib.hid (by simp [entB, sentB, objV, restObj, restProx, nov, somew, sn, ef3])
      clear sn
      go_enter Try.func19, Try.ntmps19
      go_wp2_with (first
        | ((with_reducible refine (specInB _ _ _ _).mono ?_); rintro e w1 ⟨rfl, rfl⟩; first | rw [Hsn.out]))
      go_ret
      exact GivesBool.of HN.out X.out.low
  · have Hsn : Hid (decide (0 ≤ f10 ∧ f10 ≤ 999999) = true) := Lib.hid sn
    by_cases ef3 : f3 = 0
    · subst ef3
      by_cases ef4_0 : f4_0 = 0
      · subst ef4_0
        by_cases ef4_1 : f4_1 = 0
        · subst ef4_1
          by_cases h5 : (0 : Int) < n5
          · have bn5 : ((n5 : Int) == 0) = false := by rw [beq_eq_false_iff_ne]; omega
            have HN : Hid (false = entB 1 f1 (vs L2) n2 0 0 0 n5 n6 f7 f8 f9 f10 e) := Lib.hid (by have zn5 : ¬ n5 = 0 := (by omega); simp [entB, sentB, objV, restObj, restProx, nov, somew, sn, zn5])
            clear sn
            go_enter Try.func19, Try.ntmps19
            go_wp2_with (first
              | ((with_reducible refine (specInB _ _ _ _).mono ?_); rintro e w1 ⟨rfl, rfl⟩; first | rw [Hsn.out]))
            go_ret
            exact GivesBool.of HN.out X.out.low
          · have bn5 : ((n5 : Int) == 0) = true := by rw [beq_iff_eq]; omega
            by_cases h6 : (0 : Int) < n6
            · have bn6 : ((n6 : Int) == 0) = false := by rw [beq_eq_false_iff_ne]; omega
              have HN : Hid (false = entB 1 f1 (vs L2) n2 0 0 0 n5 n6 f7 f8 f9 f10 e) := Lib.hid (by have zn5 : n5 = 0 := (by omega); have zn6 : ¬ n6 = 0 := (by omega); simp [entB, sentB, objV, restObj, restProx, nov, somew, sn, zn5, zn6])
              clear sn
              go_enter Try.func19, Try.ntmps19
              go_wp2_with (first
                | ((with_reducible refine (specInB _ _ _ _).mono ?_); rintro e w1 ⟨rfl, rfl⟩; first | rw [Hsn.out]))
              go_ret
              exact GivesBool.of HN.out X.out.low
            · have bn6 : ((n6 : Int) == 0) = true := by rw [beq_iff_eq]; omega
              rcases sc : decide (0 ≤ f1 ∧ f1 ≤ 5) with _ | _
              · have Hsc : Hid (decide (0 ≤ f1 ∧ f1 ≤ 5) = false) := Lib.hid sc
                have HN : Hid (false = entB 1 f1 (vs L2) n2 0 0 0 n5 n6 f7 f8 f9 f10 e) := Lib.hid (by have zn5 : n5 = 0 := (by omega); have zn6 : n6 = 0 := (by omega); simp [entB, sentB, objV, restObj, restProx, nov, somew, sn, zn5, zn6, sc])
                clear sn sc
                go_enter Try.func19, Try.ntmps19
                go_wp2_with (first
                  | ((with_reducible refine (specInB _ _ _ _).mono ?_); rintro e w1 ⟨rfl, rfl⟩; first | rw [Hsn.out] | rw [Hsc.out]))
                go_ret
                exact GivesBool.of HN.out X.out.low
              · have Hsc : Hid (decide (0 ≤ f1 ∧ f1 ≤ 5) = true) := Lib.hid sc
                by_cases h3 : (n2 : Int) ≤ 3
                · skip
                  rcases av : areVals (vs L2) e with _ | _
                  · have Hav : Hid (areVals (vs L2) e = false) := Lib.hid av
                    have HN : Hid (false = entB 1 f1 (vs L2) n2 0 0 0 n5 n6 f7 f8 f9 f10 e) := Lib.hid (by have zn5 : n5 = 0 := (by omega); have zn6 : n6 = 0 := (by omega); simp [entB, sentB, objV, restObj, restProx, nov, somew, sn, zn5, zn6, sc, h3, av])
                    clear sn sc av
                    go_enter Try.func19, Try.ntmps19
                    go_wp2_with (first
                      | ((with_reducible refine (specInB _ _ _ _).mono ?_); rintro e w1 ⟨rfl, rfl⟩; first | rw [Hsn.out] | rw [Hsc.out] | rw [Hav.out])
                      | ((with_reducible refine (specAreVD (X.out.lies (d := .l L2) (cs := [.slice A2 n2 c2]) (by repeat (first | exact List.mem_cons_self | refine List.mem_cons_of_mem _ ?_))) ht2 hn2).mono ?_); rintro e w2 ⟨rfl, hb5⟩; rw [Hav.out]; replace X := Lib.hid (X.out.below hb5); clear hb5; obtain ⟨x0, x1, x2, x3, x4, x5, x6, x7, x8, x9, x10, x11⟩ := (X.out.c12 (b := w.heap.size) (v0 := .int .i64 1) (v1 := .int .i64 f1) (v2 := .slice A2 n2 c2) (v3 := .int .i64 0) (v4 := .int .i64 0) (v5 := .int .i64 0) (v6 := .slice A5 n5 c5) (v7 := .slice A6 n6 c6) (v8 := .int .i64 f7) (v9 := .int .i64 f8) (v10 := .int .i64 f9) (v11 := .int .i64 f10) (by repeat (first | exact List.mem_cons_self | refine List.mem_cons_of_mem _ ?_)))))
                    go_ret
                    exact GivesBool.of HN.out X.out.low
                  · have Hav : Hid (areVals (vs L2) e = true) := Lib.hid av
                    by_cases ef7 : f7 = 0
                    · subst ef7
                      by_cases ef8 : f8 = 0
                      · subst ef8
                        by_cases ef9 : f9 = 0
                        · subst ef9
                          have HN : Hid (true = entB 1 f1 (vs L2) n2 0 0 0 n5 n6 0 0 0 f10 e) := Lib.hid (by have zn5 : n5 = 0 := (by omega); have zn6 : n6 = 0 := (by omega); simp [entB, sentB, objV, restObj, restProx, nov, somew, sn, zn5, zn6, sc, h3, av])
                          clear sn sc av
                          go_enter Try.func19, Try.ntmps19
                          go_wp2_with (first
                            | ((with_reducible refine (specInB _ _ _ _).mono ?_); rintro e w1 ⟨rfl, rfl⟩; first | rw [Hsn.out] | rw [Hsc.out] | rw [Hav.out])
                            | ((with_reducible refine (specAreVD (X.out.lies (d := .l L2) (cs := [.slice A2 n2 c2]) (by repeat (first | exact List.mem_cons_self | refine List.mem_cons_of_mem _ ?_))) ht2 hn2).mono ?_); rintro e w2 ⟨rfl, hb5⟩; rw [Hav.out]; replace X := Lib.hid (X.out.below hb5); clear hb5; obtain ⟨x0, x1, x2, x3, x4, x5, x6, x7, x8, x9, x10, x11⟩ := (X.out.c12 (b := w.heap.size) (v0 := .int .i64 1) (v1 := .int .i64 f1) (v2 := .slice A2 n2 c2) (v3 := .int .i64 0) (v4 := .int .i64 0) (v5 := .int .i64 0) (v6 := .slice A5 n5 c5) (v7 := .slice A6 n6 c6) (v8 := .int .i64 0) (v9 := .int .i64 0) (v10 := .int .i64 0) (v11 := .int .i64 f10) (by repeat (first | exact List.mem_cons_self | refine List.mem_cons_of_mem _ ?_)))))
                          go_ret
                          exact GivesBool.of HN.out X.out.low
                        · skip
                          have bf9 : (f9 == 0) = false := by simpa using ef9
                          have df9 : (f9 != 0) = true := by simpa using ef9
                          have HN : Hid (false = entB 1 f1 (vs L2) n2 0 0 0 n5 n6 0 0 f9 f10 e) := Lib.hid (by have zn5 : n5 = 0 := (by omega); have zn6 : n6 = 0 := (by omega); simp [entB, sentB, objV, restObj, restProx, nov, somew, sn, zn5, zn6, sc, h3, av, ef9])
                          clear sn sc av
                          go_enter Try.func19, Try.ntmps19
                          go_wp2_with (first
                            | ((with_reducible refine (specInB _ _ _ _).mono ?_); rintro e w1 ⟨rfl, rfl⟩; first | rw [Hsn.out] | rw [Hsc.out] | rw [Hav.out])
                            | ((with_reducible refine (specAreVD (X.out.lies (d := .l L2) (cs := [.slice A2 n2 c2]) (by repeat (first | exact List.mem_cons_self | refine List.mem_cons_of_mem _ ?_))) ht2 hn2).mono ?_); rintro e w2 ⟨rfl, hb5⟩; rw [Hav.out]; replace X := Lib.hid (X.out.below hb5); clear hb5; obtain ⟨x0, x1, x2, x3, x4, x5, x6, x7, x8, x9, x10, x11⟩ := (X.out.c12 (b := w.heap.size) (v0 := .int .i64 1) (v1 := .int .i64 f1) (v2 := .slice A2 n2 c2) (v3 := .int .i64 0) (v4 := .int .i64 0) (v5 := .int .i64 0) (v6 := .slice A5 n5 c5) (v7 := .slice A6 n6 c6) (v8 := .int .i64 0) (v9 := .int .i64 0) (v10 := .int .i64 f9) (v11 := .int .i64 f10) (by repeat (first | exact List.mem_cons_self | refine List.mem_cons_of_mem _ ?_)))))
                          go_ret
                          exact GivesBool.of HN.out X.out.low
                      · skip
                        have bf8 : (f8 == 0) = false := by simpa using ef8
                        have df8 : (f8 != 0) = true := by simpa using ef8
                        have HN : Hid (false = entB 1 f1 (vs L2) n2 0 0 0 n5 n6 0 f8 f9 f10 e) := Lib.hid (by have zn5 : n5 = 0 := (by omega); have zn6 : n6 = 0 := (by omega); simp [entB, sentB, objV, restObj, restProx, nov, somew, sn, zn5, zn6, sc, h3, av, ef8])
                        clear sn sc av
                        go_enter Try.func19, Try.ntmps19
                        go_wp2_with (first
                          | ((with_reducible refine (specInB _ _ _ _).mono ?_); rintro e w1 ⟨rfl, rfl⟩; first | rw [Hsn.out] | rw [Hsc.out] | rw [Hav.out])
                          | ((with_reducible refine (specAreVD (X.out.lies (d := .l L2) (cs := [.slice A2 n2 c2]) (by repeat (first | exact List.mem_cons_self | refine List.mem_cons_of_mem _ ?_))) ht2 hn2).mono ?_); rintro e w2 ⟨rfl, hb5⟩; rw [Hav.out]; replace X := Lib.hid (X.out.below hb5); clear hb5; obtain ⟨x0, x1, x2, x3, x4, x5, x6, x7, x8, x9, x10, x11⟩ := (X.out.c12 (b := w.heap.size) (v0 := .int .i64 1) (v1 := .int .i64 f1) (v2 := .slice A2 n2 c2) (v3 := .int .i64 0) (v4 := .int .i64 0) (v5 := .int .i64 0) (v6 := .slice A5 n5 c5) (v7 := .slice A6 n6 c6) (v8 := .int .i64 0) (v9 := .int .i64 f8) (v10 := .int .i64 f9) (v11 := .int .i64 f10) (by repeat (first | exact List.mem_cons_self | refine List.mem_cons_of_mem _ ?_)))))
                        go_ret
                        exact GivesBool.of HN.out X.out.low
                    · skip
                      have bf7 : (f7 == 0) = false := by simpa using ef7
                      have df7 : (f7 != 0) = true := by simpa using ef7
                      have HN : Hid (false = entB 1 f1 (vs L2) n2 0 0 0 n5 n6 f7 f8 f9 f10 e) := Lib.hid (by have zn5 : n5 = 0 := (by omega); have zn6 : n6 = 0 := (by omega); simp [entB, sentB, objV, restObj, restProx, nov, somew, sn, zn5, zn6, sc, h3, av, ef7])
                      clear sn sc av
                      go_enter Try.func19, Try.ntmps19
                      go_wp2_with (first
                        | ((with_reducible refine (specInB _ _ _ _).mono ?_); rintro e w1 ⟨rfl, rfl⟩; first | rw [Hsn.out] | rw [Hsc.out] | rw [Hav.out])
                        | ((with_reducible refine (specAreVD (X.out.lies (d := .l L2) (cs := [.slice A2 n2 c2]) (by repeat (first | exact List.mem_cons_self | refine List.mem_cons_of_mem _ ?_))) ht2 hn2).mono ?_); rintro e w2 ⟨rfl, hb5⟩; rw [Hav.out]; replace X := Lib.hid (X.out.below hb5); clear hb5; obtain ⟨x0, x1, x2, x3, x4, x5, x6, x7, x8, x9, x10, x11⟩ := (X.out.c12 (b := w.heap.size) (v0 := .int .i64 1) (v1 := .int .i64 f1) (v2 := .slice A2 n2 c2) (v3 := .int .i64 0) (v4 := .int .i64 0) (v5 := .int .i64 0) (v6 := .slice A5 n5 c5) (v7 := .slice A6 n6 c6) (v8 := .int .i64 f7) (v9 := .int .i64 f8) (v10 := .int .i64 f9) (v11 := .int .i64 f10) (by repeat (first | exact List.mem_cons_self | refine List.mem_cons_of_mem _ ?_)))))
                      go_ret
                      exact GivesBool.of HN.out X.out.low
                · skip
                  have HN : Hid (false = entB 1 f1 (vs L2) n2 0 0 0 n5 n6 f7 f8 f9 f10 e) := Lib.hid (by have zn5 : n5 = 0 := (by omega); have zn6 : n6 = 0 := (by omega); simp [entB, sentB, objV, restObj, restProx, nov, somew, sn, zn5, zn6, sc, h3])
                  clear sn sc
                  go_enter Try.func19, Try.ntmps19
                  go_wp2_with (first
                    | ((with_reducible refine (specInB _ _ _ _).mono ?_); rintro e w1 ⟨rfl, rfl⟩; first | rw [Hsn.out] | rw [Hsc.out]))
                  go_ret
                  exact GivesBool.of HN.out X.out.low
        · skip
          have bf4_1 : (f4_1 == 0) = false := by simpa using ef4_1
          have df4_1 : (f4_1 != 0) = true := by simpa using ef4_1
          have HN : Hid (false = entB 1 f1 (vs L2) n2 0 0 f4_1 n5 n6 f7 f8 f9 f10 e) := Lib.hid (by simp [entB, sentB, objV, restObj, restProx, nov, somew, sn, ef4_1])
          clear sn
          go_enter Try.func19, Try.ntmps19
          go_wp2_with (first
            | ((with_reducible refine (specInB _ _ _ _).mono ?_); rintro e w1 ⟨rfl, rfl⟩; first | rw [Hsn.out]))
          go_ret
          exact GivesBool.of HN.out X.out.low
      · skip
        have bf4_0 : (f4_0 == 0) = false := by simpa using ef4_0
        have df4_0 : (f4_0 != 0) = true := by simpa using ef4_0
        have HN : Hid (false = entB 1 f1 (vs L2) n2 0 f4_0 f4_1 n5 n6 f7 f8 f9 f10 e) := Lib.hid (by simp [entB, sentB, objV, restObj, restProx, nov, somew, sn, ef4_0])
        clear sn
        go_enter Try.func19, Try.ntmps19
        go_wp2_with (first
          | ((with_reducible refine (specInB _ _ _ _).mono ?_); rintro e w1 ⟨rfl, rfl⟩; first | rw [Hsn.out]))
        go_ret
        exact GivesBool.of HN.out X.out.low
    · skip
      have bf3 : (f3 == 0) = false := by simpa using ef3
      have df3 : (f3 != 0) = true := by simpa using ef3
      have HN : Hid (false = entB 1 f1 (vs L2) n2 f3 f4_0 f4_1 n5 n6 f7 f8 f9 f10 e) := Lib.hid (by simp [entB, sentB, objV, restObj, restProx, nov, somew, sn, ef3])
      clear sn
      go_enter Try.func19, Try.ntmps19
      go_wp2_with (first
        | ((with_reducible refine (specInB _ _ _ _).mono ?_); rintro e w1 ⟨rfl, rfl⟩; first | rw [Hsn.out]))
      go_ret
      exact GivesBool.of HN.out X.out.low
set_option maxRecDepth 100000 in
set_option maxHeartbeats 40000000 in
theorem specEnt3 (f1 : Int) (L2 : List Dat) (A2 : Option Addr) (n2 c2 : Nat) (f3 : Int) (f4_0 : Int) (f4_1 : Int) (L5 : List Dat) (A5 : Option Addr) (n5 c5 : Nat) (L6 : List Dat) (A6 : Option Addr) (n6 c6 : Nat) (f7 : Int) (f8 : Int) (f9 : Int) (f10 : Int) (e : Int) (w : World) (hl2 : Lies w (.l L2) [.slice A2 n2 c2]) (ht2 : ∀ x ∈ L2, Has tyValue x) (hn2 : n2 ≤ 1099511627776) (hl5 : Lies w (.l L5) [.slice A5 n5 c5]) (ht5 : ∀ x ∈ L5, Has tySent x) (hn5 : n5 ≤ 1099511627776) (hl6 : Lies w (.l L6) [.slice A6 n6 c6]) (ht6 : ∀ x ∈ L6, Has tyAsker x) (hn6 : n6 ≤ 1099511627776) : Calls Try.prog 19 #[.agg #[.int .i64 3, .int .i64 f1, .slice A2 n2 c2, .int .i64 f3, .int .i64 f4_0, .int .i64 f4_1, .slice A5 n5 c5, .slice A6 n6 c6, .int .i64 f7, .int .i64 f8, .int .i64 f9, .int .i64 f10], .int .i64 e] w (GivesBool (entB 3 f1 (vs L2) n2 f3 f4_0 f4_1 n5 n6 f7 f8 f9 f10 e) w) := by
  have X := Lib.hid (((((St.start w).lie hl2).lie hl5).lie hl6).push #[.int .i64 3, .int .i64 f1, .slice A2 n2 c2, .int .i64 f3, .int .i64 f4_0, .int .i64 f4_1, .slice A5 n5 c5, .slice A6 n6 c6, .int .i64 f7, .int .i64 f8, .int .i64 f9, .int .i64 f10] 30)
  clear hl2 hl5 hl6
  rcases sn : decide (0 ≤ f10 ∧ f10 ≤ 999999) with _ | _
  · have Hsn : Hid (decide (0 ≤ f10 ∧ f10 ≤ 999999) = false) := Lib.hid sn
    by_cases ef3 : f3 = 0
    · subst ef3
      by_cases ef4_0 : f4_0 = 0
      · subst ef4_0
        by_cases ef4_1 : f4_1 = 0
        · subst ef4_1
          by_cases h5 : (0 : Int) < n5
          · have bn5 : ((n5 : Int) == 0) = false := by rw [beq_eq_false_iff_ne]; omega
            have HN : Hid (false = entB 3 f1 (vs L2) n2 0 0 0 n5 n6 f7 f8 f9 f10 e) := Lib.hid (by have zn5 : ¬ n5 = 0 := (by omega); simp [entB, sentB, objV, restObj, restProx, nov, somew, sn, zn5])
            clear sn
            go_enter Try.func19, Try.ntmps19
            go_wp2_with (first
              | ((with_reducible refine (specInB _ _ _ _).mono ?_); rintro e w1 ⟨rfl, rfl⟩; first | rw [Hsn.out]))
            go_ret
            exact GivesBool.of HN.out X.out.low
          · have bn5 : ((n5 : Int) == 0) = true := by rw [beq_iff_eq]; omega
            by_cases h6 : (0 : Int) < n6
            · have bn6 : ((n6 : Int) == 0) = false := by rw [beq_eq_false_iff_ne]; omega
              have HN : Hid (false = entB 3 f1 (vs L2) n2 0 0 0 n5 n6 f7 f8 f9 f10 e) := Lib.hid (by have zn5 : n5 = 0 := (by omega); have zn6 : ¬ n6 = 0 := (by omega); simp [entB, sentB, objV, restObj, restProx, nov, somew, sn, zn5, zn6])
              clear sn
              go_enter Try.func19, Try.ntmps19
              go_wp2_with (first
                | ((with_reducible refine (specInB _ _ _ _).mono ?_); rintro e w1 ⟨rfl, rfl⟩; first | rw [Hsn.out]))
              go_ret
              exact GivesBool.of HN.out X.out.low
            · have bn6 : ((n6 : Int) == 0) = true := by rw [beq_iff_eq]; omega
              have HN : Hid (false = entB 3 f1 (vs L2) n2 0 0 0 n5 n6 f7 f8 f9 f10 e) := Lib.hid (by have zn5 : n5 = 0 := (by omega); have zn6 : n6 = 0 := (by omega); simp [entB, sentB, objV, restObj, restProx, nov, somew, sn, zn5, zn6])
              clear sn
              go_enter Try.func19, Try.ntmps19
              go_wp2_with (first
                | ((with_reducible refine (specInB _ _ _ _).mono ?_); rintro e w1 ⟨rfl, rfl⟩; first | rw [Hsn.out]))
              go_ret
              exact GivesBool.of HN.out X.out.low
        · skip
          have bf4_1 : (f4_1 == 0) = false := by simpa using ef4_1
          have df4_1 : (f4_1 != 0) = true := by simpa using ef4_1
          have HN : Hid (false = entB 3 f1 (vs L2) n2 0 0 f4_1 n5 n6 f7 f8 f9 f10 e) := Lib.hid (by simp [entB, sentB, objV, restObj, restProx, nov, somew, sn, ef4_1])
          clear sn
          go_enter Try.func19, Try.ntmps19
          go_wp2_with (first
            | ((with_reducible refine (specInB _ _ _ _).mono ?_); rintro e w1 ⟨rfl, rfl⟩; first | rw [Hsn.out]))
          go_ret
          exact GivesBool.of HN.out X.out.low
      · skip
        have bf4_0 : (f4_0 == 0) = false := by simpa using ef4_0
        have df4_0 : (f4_0 != 0) = true := by simpa using ef4_0
        have HN : Hid (false = entB 3 f1 (vs L2) n2 0 f4_0 f4_1 n5 n6 f7 f8 f9 f10 e) := Lib.hid (by simp [entB, sentB, objV, restObj, restProx, nov, somew, sn, ef4_0])
        clear sn
        go_enter Try.func19, Try.ntmps19
        go_wp2_with (first
          | ((with_reducible refine (specInB _ _ _ _).mono ?_); rintro e w1 ⟨rfl, rfl⟩; first | rw [Hsn.out]))
        go_ret
        exact GivesBool.of HN.out X.out.low
    · skip
      have bf3 : (f3 == 0) = false := by simpa using ef3
      have df3 : (f3 != 0) = true := by simpa using ef3
      have HN : Hid (false = entB 3 f1 (vs L2) n2 f3 f4_0 f4_1 n5 n6 f7 f8 f9 f10 e) := Lib.hid (by simp [entB, sentB, objV, restObj, restProx, nov, somew, sn, ef3])
      clear sn
      go_enter Try.func19, Try.ntmps19
      go_wp2_with (first
        | ((with_reducible refine (specInB _ _ _ _).mono ?_); rintro e w1 ⟨rfl, rfl⟩; first | rw [Hsn.out]))
      go_ret
      exact GivesBool.of HN.out X.out.low
  · have Hsn : Hid (decide (0 ≤ f10 ∧ f10 ≤ 999999) = true) := Lib.hid sn
    by_cases ef3 : f3 = 0
    · subst ef3
      by_cases ef4_0 : f4_0 = 0
      · subst ef4_0
        by_cases ef4_1 : f4_1 = 0
        · subst ef4_1
          by_cases h5 : (0 : Int) < n5
          · have bn5 : ((n5 : Int) == 0) = false := by rw [beq_eq_false_iff_ne]; omega
            have HN : Hid (false = entB 3 f1 (vs L2) n2 0 0 0 n5 n6 f7 f8 f9 f10 e) := Lib.hid (by have zn5 : ¬ n5 = 0 := (by omega); simp [entB, sentB, objV, restObj, restProx, nov, somew, sn, zn5])
            clear sn
            go_enter Try.func19, Try.ntmps19
            go_wp2_with (first
              | ((with_reducible refine (specInB _ _ _ _).mono ?_); rintro e w1 ⟨rfl, rfl⟩; first | rw [Hsn.out]))
            go_ret
            exact GivesBool.of HN.out X.out.low
          · have bn5 : ((n5 : Int) == 0) = true := by rw [beq_iff_eq]; omega
            by_cases h6 : (0 : Int) < n6
            · have bn6 : ((n6 : Int) == 0) = false := by rw [beq_eq_false_iff_ne]; omega
              have HN : Hid (false = entB 3 f1 (vs L2) n2 0 0 0 n5 n6 f7 f8 f9 f10 e) := Lib.hid (by have zn5 : n5 = 0 := (by omega); have zn6 : ¬ n6 = 0 := (by omega); simp [entB, sentB, objV, restObj, restProx, nov, somew, sn, zn5, zn6])
              clear sn
              go_enter Try.func19, Try.ntmps19
              go_wp2_with (first
                | ((with_reducible refine (specInB _ _ _ _).mono ?_); rintro e w1 ⟨rfl, rfl⟩; first | rw [Hsn.out]))
              go_ret
              exact GivesBool.of HN.out X.out.low
            · have bn6 : ((n6 : Int) == 0) = true := by rw [beq_iff_eq]; omega
              by_cases ef1 : f1 = 0
              · subst ef1
                by_cases h2 : (0 : Int) < n2
                · have bn2 : ((n2 : Int) == 0) = false := by rw [beq_eq_false_iff_ne]; omega
                  have HN : Hid (false = entB 3 0 (vs L2) n2 0 0 0 n5 n6 f7 f8 f9 f10 e) := Lib.hid (by have zn5 : n5 = 0 := (by omega); have zn6 : n6 = 0 := (by omega); have zn2 : ¬ n2 = 0 := (by omega); simp [entB, sentB, objV, restObj, restProx, nov, somew, sn, zn5, zn6, zn2])
                  clear sn
                  go_enter Try.func19, Try.ntmps19
                  go_wp2_with (first
                    | ((with_reducible refine (specInB _ _ _ _).mono ?_); rintro e w1 ⟨rfl, rfl⟩; first | rw [Hsn.out]))
                  go_ret
                  exact GivesBool.of HN.out X.out.low
                · have bn2 : ((n2 : Int) == 0) = true := by rw [beq_iff_eq]; omega
                  rcases p1 : decide (1 ≤ f7 ∧ f7 ≤ 4) with _ | _
                  · have Hp1 : Hid (decide (1 ≤ f7 ∧ f7 ≤ 4) = false) := Lib.hid p1
                    have HN : Hid (false = entB 3 0 (vs L2) n2 0 0 0 n5 n6 f7 f8 f9 f10 e) := Lib.hid (by have zn5 : n5 = 0 := (by omega); have zn6 : n6 = 0 := (by omega); have zn2 : n2 = 0 := (by omega); simp [entB, sentB, objV, restObj, restProx, nov, somew, sn, zn5, zn6, zn2, p1])
                    clear sn p1
                    go_enter Try.func19, Try.ntmps19
                    go_wp2_with (first
                      | ((with_reducible refine (specInB _ _ _ _).mono ?_); rintro e w1 ⟨rfl, rfl⟩; first | rw [Hsn.out] | rw [Hp1.out]))
                    go_ret
                    exact GivesBool.of HN.out X.out.low
                  · have Hp1 : Hid (decide (1 ≤ f7 ∧ f7 ≤ 4) = true) := Lib.hid p1
                    rcases p2 : decide (1 ≤ f8 ∧ f8 ≤ 999999) with _ | _
                    · have Hp2 : Hid (decide (1 ≤ f8 ∧ f8 ≤ 999999) = false) := Lib.hid p2
                      have HN : Hid (false = entB 3 0 (vs L2) n2 0 0 0 n5 n6 f7 f8 f9 f10 e) := Lib.hid (by have zn5 : n5 = 0 := (by omega); have zn6 : n6 = 0 := (by omega); have zn2 : n2 = 0 := (by omega); simp [entB, sentB, objV, restObj, restProx, nov, somew, sn, zn5, zn6, zn2, p1, p2])
                      clear sn p1 p2
                      go_enter Try.func19, Try.ntmps19
                      go_wp2_with (first
                        | ((with_reducible refine (specInB _ _ _ _).mono ?_); rintro e w1 ⟨rfl, rfl⟩; first | rw [Hsn.out] | rw [Hp1.out] | rw [Hp2.out]))
                      go_ret
                      exact GivesBool.of HN.out X.out.low
                    · have Hp2 : Hid (decide (1 ≤ f8 ∧ f8 ≤ 999999) = true) := Lib.hid p2
                      rcases p3 : decide (1 ≤ f9 ∧ f9 ≤ 999999) with _ | _
                      · have Hp3 : Hid (decide (1 ≤ f9 ∧ f9 ≤ 999999) = false) := Lib.hid p3
                        have HN : Hid (false = entB 3 0 (vs L2) n2 0 0 0 n5 n6 f7 f8 f9 f10 e) := Lib.hid (by have zn5 : n5 = 0 := (by omega); have zn6 : n6 = 0 := (by omega); have zn2 : n2 = 0 := (by omega); simp [entB, sentB, objV, restObj, restProx, nov, somew, sn, zn5, zn6, zn2, p1, p2, p3])
                        clear sn p1 p2 p3
                        go_enter Try.func19, Try.ntmps19
                        go_wp2_with (first
                          | ((with_reducible refine (specInB _ _ _ _).mono ?_); rintro e w1 ⟨rfl, rfl⟩; first | rw [Hsn.out] | rw [Hp1.out] | rw [Hp2.out] | rw [Hp3.out]))
                        go_ret
                        exact GivesBool.of HN.out X.out.low
                      · have Hp3 : Hid (decide (1 ≤ f9 ∧ f9 ≤ 999999) = true) := Lib.hid p3
                        have HN : Hid (true = entB 3 0 (vs L2) n2 0 0 0 n5 n6 f7 f8 f9 f10 e) := Lib.hid (by have zn5 : n5 = 0 := (by omega); have zn6 : n6 = 0 := (by omega); have zn2 : n2 = 0 := (by omega); simp [entB, sentB, objV, restObj, restProx, nov, somew, sn, zn5, zn6, zn2, p1, p2, p3])
                        clear sn p1 p2 p3
                        go_enter Try.func19, Try.ntmps19
                        go_wp2_with (first
                          | ((with_reducible refine (specInB _ _ _ _).mono ?_); rintro e w1 ⟨rfl, rfl⟩; first | rw [Hsn.out] | rw [Hp1.out] | rw [Hp2.out] | rw [Hp3.out]))
                        go_ret
                        exact GivesBool.of HN.out X.out.low
              · skip
                have bf1 : (f1 == 0) = false := by simpa using ef1
                have df1 : (f1 != 0) = true := by simpa using ef1
                have HN : Hid (false = entB 3 f1 (vs L2) n2 0 0 0 n5 n6 f7 f8 f9 f10 e) := Lib.hid (by have zn5 : n5 = 0 := (by omega); have zn6 : n6 = 0 := (by omega); simp [entB, sentB, objV, restObj, restProx, nov, somew, sn, zn5, zn6, ef1])
                clear sn
                go_enter Try.func19, Try.ntmps19
                go_wp2_with (first
                  | ((with_reducible refine (specInB _ _ _ _).mono ?_); rintro e w1 ⟨rfl, rfl⟩; first | rw [Hsn.out]))
                go_ret
                exact GivesBool.of HN.out X.out.low
        · skip
          have bf4_1 : (f4_1 == 0) = false := by simpa using ef4_1
          have df4_1 : (f4_1 != 0) = true := by simpa using ef4_1
          have HN : Hid (false = entB 3 f1 (vs L2) n2 0 0 f4_1 n5 n6 f7 f8 f9 f10 e) := Lib.hid (by simp [entB, sentB, objV, restObj, restProx, nov, somew, sn, ef4_1])
          clear sn
          go_enter Try.func19, Try.ntmps19
          go_wp2_with (first
            | ((with_reducible refine (specInB _ _ _ _).mono ?_); rintro e w1 ⟨rfl, rfl⟩; first | rw [Hsn.out]))
          go_ret
          exact GivesBool.of HN.out X.out.low
      · skip
        have bf4_0 : (f4_0 == 0) = false := by simpa using ef4_0
        have df4_0 : (f4_0 != 0) = true := by simpa using ef4_0
        have HN : Hid (false = entB 3 f1 (vs L2) n2 0 f4_0 f4_1 n5 n6 f7 f8 f9 f10 e) := Lib.hid (by simp [entB, sentB, objV, restObj, restProx, nov, somew, sn, ef4_0])
        clear sn
        go_enter Try.func19, Try.ntmps19
        go_wp2_with (first
          | ((with_reducible refine (specInB _ _ _ _).mono ?_); rintro e w1 ⟨rfl, rfl⟩; first | rw [Hsn.out]))
        go_ret
        exact GivesBool.of HN.out X.out.low
    · skip
      have bf3 : (f3 == 0) = false := by simpa using ef3
      have df3 : (f3 != 0) = true := by simpa using ef3
      have HN : Hid (false = entB 3 f1 (vs L2) n2 f3 f4_0 f4_1 n5 n6 f7 f8 f9 f10 e) := Lib.hid (by simp [entB, sentB, objV, restObj, restProx, nov, somew, sn, ef3])
      clear sn
      go_enter Try.func19, Try.ntmps19
      go_wp2_with (first
        | ((with_reducible refine (specInB _ _ _ _).mono ?_); rintro e w1 ⟨rfl, rfl⟩; first | rw [Hsn.out]))
      go_ret
      exact GivesBool.of HN.out X.out.low
end Go.Proofs.Ytfgijebgnkikpaa
