/- Chapter 10: the reference's EqualLinks. -/
import Derived.Test.YtmeacgpebpfpbaaCom
import Derived.Test.YtmeacgpebpfpbaaEqLA
import Derived.LoopTactic
import Derived.Lib.Hide
import Derived.Deep.QuietTactic
import Derived.BigQuiet
import Derived.Deep.RegionWith
import Derived.Handy
namespace Go.Proofs.Ytmeacgpebpfpbaa
open Go.RowKit
set_option linter.unusedVariables false
set_option linter.unusedSimpArgs false
set_option maxRecDepth 100000 in
set_option maxHeartbeats 40000000 in
theorem specEqLink (f0 : Int) (f1 : Bool) (L2 : List Dat) (A2 : Option Addr) (n2 c2 : Nat) (f3 : Int) (L4 : List Dat) (A4 : Option Addr) (n4 c4 : Nat) (f5 : Int) (L6 : List Dat) (A6 : Option Addr) (n6 c6 : Nat) (g0 : Int) (g1 : Bool) (M2 : List Dat) (B2 : Option Addr) (m2 k2 : Nat) (g3 : Int) (M4 : List Dat) (B4 : Option Addr) (m4 k4 : Nat) (g5 : Int) (M6 : List Dat) (B6 : Option Addr) (m6 k6 : Nat) (w : World) (hl2 : Lies w (.l L2) [.slice A2 n2 c2]) (hr2 : Lies w (.l M2) [.slice B2 m2 k2]) (ht2 : ∀ x ∈ L2, Has tyExport x) (hu2 : ∀ x ∈ M2, Has tyExport x) (hn2 : n2 ≤ 1099511627776) (hl4 : Lies w (.l L4) [.slice A4 n4 c4]) (hr4 : Lies w (.l M4) [.slice B4 m4 k4]) (ht4 : ∀ x ∈ L4, Has tyQuestion x) (hu4 : ∀ x ∈ M4, Has tyQuestion x) (hn4 : n4 ≤ 1099511627776) (hl6 : Lies w (.l L6) [.slice A6 n6 c6]) (hr6 : Lies w (.l M6) [.slice B6 m6 k6]) (ht6 : ∀ x ∈ L6, Has tyQuestion x) (hu6 : ∀ x ∈ M6, Has tyQuestion x) (hn6 : n6 ≤ 1099511627776) : Calls Try.prog 107 #[.agg #[.int .i64 f0, .bool f1, .slice A2 n2 c2, .int .i64 f3, .slice A4 n4 c4, .int .i64 f5, .slice A6 n6 c6], .agg #[.int .i64 g0, .bool g1, .slice B2 m2 k2, .int .i64 g3, .slice B4 m4 k4, .int .i64 g5, .slice B6 m6 k6]] w (GivesBool (eq1 (.r [.i f0, .b f1, .l L2, .i f3, .l L4, .i f5, .l L6]) (.r [.i g0, .b g1, .l M2, .i g3, .l M4, .i g5, .l M6])) w) := by
  have HC2 := Lib.hid hl2.count
  have HC2' := Lib.hid hr2.count
  have HL2 := Lib.hid hl2
  have HR2 := Lib.hid hr2
  have HT2 := Lib.hid ht2
  have HU2 := Lib.hid hu2
  clear hl2 hr2 ht2 hu2
  have HL4 := Lib.hid hl4
  have HR4 := Lib.hid hr4
  have HT4 := Lib.hid ht4
  have HU4 := Lib.hid hu4
  clear hl4 hr4 ht4 hu4
  have HL6 := Lib.hid hl6
  have HR6 := Lib.hid hr6
  have HT6 := Lib.hid ht6
  have HU6 := Lib.hid hu6
  clear hl6 hr6 ht6 hu6
  have X := ((Held.start w).push #[.int .i64 f0, .bool f1, .slice A2 n2 c2, .int .i64 f3, .slice A4 n4 c4, .int .i64 f5, .slice A6 n6 c6] 97).push #[.int .i64 g0, .bool g1, .slice B2 m2 k2, .int .i64 g3, .slice B4 m4 k4, .int .i64 g5, .slice B6 m6 k6] 97
  simp only [World.size_alloc] at X
  replace X := Lib.hid X
  by_cases e0 : f0 = g0
  · subst e0
    by_cases e1 : f1 = g1
    · subst e1
      by_cases e3 : f3 = g3
      · subst e3
        by_cases e5 : f5 = g5
        · subst e5
          by_cases e2 : n2 = m2
          · subst e2
            go_enter Try.func107, Try.ntmps107
            go_wp2_with fail
            go_loopw [5] (fun iv wr => ∃ i : Nat, i ≤ n2 ∧ iv = .int .i64 i ∧ L2.take i = M2.take i ∧ Held w [(w.heap.size + 1, [.int .i64 f0, .bool f1, .slice B2 n2 k2, .int .i64 f3, .slice B4 m4 k4, .int .i64 f5, .slice B6 m6 k6]), (w.heap.size, [.int .i64 f0, .bool f1, .slice A2 n2 c2, .int .i64 f3, .slice A4 n4 c4, .int .i64 f5, .slice A6 n6 c6])] wr) (fun iv _ => n2 - (intOf iv).toNat)
            case atStart => exact ⟨0, Nat.zero_le _, rfl, rfl, X.out⟩
            case round =>
              obtain ⟨i, hin, rfl, hal, hX⟩ := hrel
              clear X
              have X := Lib.hid hX
              have HA := Lib.hid hal
              clear hX hal
              by_cases hlt : i < n2
              · obtain ⟨b, off, d, xs, rfl, hbw, hzi, hlie, hlen, hcellr⟩ := (HL2.out.below X.out.1).elem (fun x hx => (HT2.out x hx).width) hlt
                obtain ⟨b', off', d', xs', rfl, hbw', hzi', hlie', hlen', hcells⟩ := (HR2.out.below X.out.1).elem (fun x hx => (HU2.out x hx).width) hlt
                obtain ⟨q0, q1, q2, rfl, rfl⟩ := invExport (HU2.out d' (List.mem_of_getElem? hzi')) hlie'
                obtain ⟨p0, p1, p2, rfl, rfl⟩ := invExport (HT2.out d (List.mem_of_getElem? hzi)) hlie
                have r0 : wr.cell? ⟨b, off + i * 3, none⟩ = some (.int .i64 p0) := hcellr 0 _ rfl
                have s0 : wr.cell? ⟨b', off' + i * 3, none⟩ = some (.int .i64 q0) := hcells 0 _ rfl
                have r1 : wr.cell? ⟨b, off + i * 3 + 1, none⟩ = some (.int .i64 p1) := hcellr 1 _ rfl
                have s1 : wr.cell? ⟨b', off' + i * 3 + 1, none⟩ = some (.int .i64 q1) := hcells 1 _ rfl
                have r2 : wr.cell? ⟨b, off + i * 3 + 2, none⟩ = some (.int .i64 p2) := hcellr 2 _ rfl
                have s2 : wr.cell? ⟨b', off' + i * 3 + 2, none⟩ = some (.int .i64 q2) := hcells 2 _ rfl
                have HZ := Lib.hid hzi
                have HZ' := Lib.hid hzi'
                clear hzi hzi' hcellr hcells hlie hlie'
                have x2 := X.out.at_ (g := w.heap.size) (i := 2) (v := .slice (some ⟨b, off, none⟩) n2 c2) (cs := [.int .i64 f0, .bool f1, .slice (some ⟨b, off, none⟩) n2 c2, .int .i64 f3, .slice A4 n4 c4, .int .i64 f5, .slice A6 n6 c6]) (by repeat (first | exact List.mem_cons_self | refine List.mem_cons_of_mem _ ?_)) rfl
                have y2 := X.out.at_ (g := w.heap.size + 1) (i := 2) (v := .slice (some ⟨b', off', none⟩) n2 k2) (cs := [.int .i64 f0, .bool f1, .slice (some ⟨b', off', none⟩) n2 k2, .int .i64 f3, .slice B4 m4 k4, .int .i64 f5, .slice B6 m6 k6]) (by repeat (first | exact List.mem_cons_self | refine List.mem_cons_of_mem _ ?_)) rfl
                obtain ⟨v, hv⟩ : ∃ v, (p0 == q0 && p1 == q1 && p2 == q2) = v := ⟨_, rfl⟩
                have HV := Lib.hid hv
                clear hv
                go_wp2
                refine wp_region_quiet_lit (by kernel_rfl) (by kernel_rfl) ?_
                repeat (first
                  | (refine BigFrame.wpQuiet_want (by rfl) (fun K hK => ?_); refine quiet_neq_x3 rfl _ _ _ rfl rfl rfl v HV.out ?_; refine hK _ ?_; clear hK K)
                  | go_big_quiet_step (fail)
                  | quiet_step (fail))
                refine wpQuiet_nil ?_
                intro _ hw'
                obtain ⟨nq, hw''⟩ := hw'
                subst hw''
                cases v with
                | true =>
                  have HN : Hid (L2.take (i + 1) = M2.take (i + 1)) := Lib.hid (by
                    have e8 := HV.out
                    simp only [Bool.and_eq_true, beq_iff_eq] at e8
                    obtain ⟨⟨rfl, rfl⟩, rfl⟩ := e8
                    exact take_nextD HA.out HZ.out HZ'.out)
                  go_wp2
                  go_roundw
                  case rel => exact ⟨i + 1, by omega, by go_num, HN.out, X.out.drewN _⟩
                  case measure => (simp [intOf]; try omega)
                | false =>
                  have HN : Hid (false = eq1 (.r [.i f0, .b f1, .l L2, .i f3, .l L4, .i f5, .l L6]) (.r [.i f0, .b f1, .l M2, .i f3, .l M4, .i f5, .l M6])) := by
                    refine Lib.hid (eq1_no (fun x => ?_)).symm
                    have e9 : L2 = M2 := by
                      simp at x
                      exact x.1
                    have e8 := HZ.out
                    rw [e9, HZ'.out] at e8
                    have e7 := Option.some.inj e8
                    simp at e7
                    have e6 := HV.out
                    simp [e7] at e6
                  go_wp2
                  go_ret
                  exact GivesBool.of HN.out (below_drewN X.out.1 _)
              · obtain rfl : n2 = i := by omega
                have e2 : L2 = M2 := eqD_iff.1 (eqD_all HC2.out HC2'.out HA.out)
                subst e2
                by_cases e4 : L4 = M4
                · subst e4
                  by_cases e6 : L6 = M6
                  · subst e6
                    have HN := Lib.hid (eq1_yes (.r [.i f0, .b f1, .l L2, .i f3, .l L4, .i f5, .l L6])).symm
                    obtain ⟨x0, x1, x2, x3, x4, x5, x6⟩ := (X.out.box (g := w.heap.size) (cs := [.int .i64 f0, .bool f1, .slice A2 n2 c2, .int .i64 f3, .slice A4 n4 c4, .int .i64 f5, .slice A6 n6 c6]) (by repeat (first | exact List.mem_cons_self | refine List.mem_cons_of_mem _ ?_))).c7
                    obtain ⟨y0, y1, y2, y3, y4, y5, y6⟩ := (X.out.box (g := w.heap.size + 1) (cs := [.int .i64 f0, .bool f1, .slice B2 n2 k2, .int .i64 f3, .slice B4 m4 k4, .int .i64 f5, .slice B6 m6 k6]) (by repeat (first | exact List.mem_cons_self | refine List.mem_cons_of_mem _ ?_))).c7
                    go_wp2_with fail
                    refine (specSame _ _ A4 B4 n4 m4 c4 k4 _ (HL4.out.below X.out.1) (HR4.out.below X.out.1) HT4.out HU4.out hn4).mono ?_
                    rintro e w4 ⟨rfl, hb⟩
                    clear x0 y0 x1 y1 x2 y2 x3 y3 x4 y4 x5 y5 x6 y6
                    rw [eqD_yes]
                    replace X := Lib.hid (X.out.below hb)
                    clear hb
                    obtain ⟨x0, x1, x2, x3, x4, x5, x6⟩ := (X.out.box (g := w.heap.size) (cs := [.int .i64 f0, .bool f1, .slice A2 n2 c2, .int .i64 f3, .slice A4 n4 c4, .int .i64 f5, .slice A6 n6 c6]) (by repeat (first | exact List.mem_cons_self | refine List.mem_cons_of_mem _ ?_))).c7
                    obtain ⟨y0, y1, y2, y3, y4, y5, y6⟩ := (X.out.box (g := w.heap.size + 1) (cs := [.int .i64 f0, .bool f1, .slice B2 n2 k2, .int .i64 f3, .slice B4 m4 k4, .int .i64 f5, .slice B6 m6 k6]) (by repeat (first | exact List.mem_cons_self | refine List.mem_cons_of_mem _ ?_))).c7
                    go_wp2_with fail
                    refine (specSame _ _ A6 B6 n6 m6 c6 k6 _ (HL6.out.below X.out.1) (HR6.out.below X.out.1) HT6.out HU6.out hn6).mono ?_
                    rintro e w6 ⟨rfl, hb⟩
                    clear x0 y0 x1 y1 x2 y2 x3 y3 x4 y4 x5 y5 x6 y6
                    rw [eqD_yes]
                    replace X := Lib.hid (X.out.below hb)
                    clear hb
                    obtain ⟨x0, x1, x2, x3, x4, x5, x6⟩ := (X.out.box (g := w.heap.size) (cs := [.int .i64 f0, .bool f1, .slice A2 n2 c2, .int .i64 f3, .slice A4 n4 c4, .int .i64 f5, .slice A6 n6 c6]) (by repeat (first | exact List.mem_cons_self | refine List.mem_cons_of_mem _ ?_))).c7
                    obtain ⟨y0, y1, y2, y3, y4, y5, y6⟩ := (X.out.box (g := w.heap.size + 1) (cs := [.int .i64 f0, .bool f1, .slice B2 n2 k2, .int .i64 f3, .slice B4 m4 k4, .int .i64 f5, .slice B6 m6 k6]) (by repeat (first | exact List.mem_cons_self | refine List.mem_cons_of_mem _ ?_))).c7
                    go_wp2_with fail
                    go_ret
                    exact GivesBool.of HN.out X.out.1
                  · have HN : Hid (false = eq1 (.r [.i f0, .b f1, .l L2, .i f3, .l L4, .i f5, .l L6]) (.r [.i f0, .b f1, .l L2, .i f3, .l L4, .i f5, .l M6])) := Lib.hid (eq1_no (by simp [e6])).symm
                    have HE6 := Lib.hid (eqD_no e6)
                    clear e6
                    obtain ⟨x0, x1, x2, x3, x4, x5, x6⟩ := (X.out.box (g := w.heap.size) (cs := [.int .i64 f0, .bool f1, .slice A2 n2 c2, .int .i64 f3, .slice A4 n4 c4, .int .i64 f5, .slice A6 n6 c6]) (by repeat (first | exact List.mem_cons_self | refine List.mem_cons_of_mem _ ?_))).c7
                    obtain ⟨y0, y1, y2, y3, y4, y5, y6⟩ := (X.out.box (g := w.heap.size + 1) (cs := [.int .i64 f0, .bool f1, .slice B2 n2 k2, .int .i64 f3, .slice B4 m4 k4, .int .i64 f5, .slice B6 m6 k6]) (by repeat (first | exact List.mem_cons_self | refine List.mem_cons_of_mem _ ?_))).c7
                    go_wp2_with fail
                    refine (specSame _ _ A4 B4 n4 m4 c4 k4 _ (HL4.out.below X.out.1) (HR4.out.below X.out.1) HT4.out HU4.out hn4).mono ?_
                    rintro e w4 ⟨rfl, hb⟩
                    clear x0 y0 x1 y1 x2 y2 x3 y3 x4 y4 x5 y5 x6 y6
                    rw [eqD_yes]
                    replace X := Lib.hid (X.out.below hb)
                    clear hb
                    obtain ⟨x0, x1, x2, x3, x4, x5, x6⟩ := (X.out.box (g := w.heap.size) (cs := [.int .i64 f0, .bool f1, .slice A2 n2 c2, .int .i64 f3, .slice A4 n4 c4, .int .i64 f5, .slice A6 n6 c6]) (by repeat (first | exact List.mem_cons_self | refine List.mem_cons_of_mem _ ?_))).c7
                    obtain ⟨y0, y1, y2, y3, y4, y5, y6⟩ := (X.out.box (g := w.heap.size + 1) (cs := [.int .i64 f0, .bool f1, .slice B2 n2 k2, .int .i64 f3, .slice B4 m4 k4, .int .i64 f5, .slice B6 m6 k6]) (by repeat (first | exact List.mem_cons_self | refine List.mem_cons_of_mem _ ?_))).c7
                    go_wp2_with fail
                    refine (specSame _ _ A6 B6 n6 m6 c6 k6 _ (HL6.out.below X.out.1) (HR6.out.below X.out.1) HT6.out HU6.out hn6).mono ?_
                    rintro e w6 ⟨rfl, hb⟩
                    clear x0 y0 x1 y1 x2 y2 x3 y3 x4 y4 x5 y5 x6 y6
                    rw [HE6.out]
                    replace X := Lib.hid (X.out.below hb)
                    clear hb
                    obtain ⟨x0, x1, x2, x3, x4, x5, x6⟩ := (X.out.box (g := w.heap.size) (cs := [.int .i64 f0, .bool f1, .slice A2 n2 c2, .int .i64 f3, .slice A4 n4 c4, .int .i64 f5, .slice A6 n6 c6]) (by repeat (first | exact List.mem_cons_self | refine List.mem_cons_of_mem _ ?_))).c7
                    obtain ⟨y0, y1, y2, y3, y4, y5, y6⟩ := (X.out.box (g := w.heap.size + 1) (cs := [.int .i64 f0, .bool f1, .slice B2 n2 k2, .int .i64 f3, .slice B4 m4 k4, .int .i64 f5, .slice B6 m6 k6]) (by repeat (first | exact List.mem_cons_self | refine List.mem_cons_of_mem _ ?_))).c7
                    go_wp2_with fail
                    go_ret
                    exact GivesBool.of HN.out X.out.1
                · have HN : Hid (false = eq1 (.r [.i f0, .b f1, .l L2, .i f3, .l L4, .i f5, .l L6]) (.r [.i f0, .b f1, .l L2, .i f3, .l M4, .i f5, .l M6])) := Lib.hid (eq1_no (by simp [e4])).symm
                  have HE4 := Lib.hid (eqD_no e4)
                  clear e4
                  obtain ⟨x0, x1, x2, x3, x4, x5, x6⟩ := (X.out.box (g := w.heap.size) (cs := [.int .i64 f0, .bool f1, .slice A2 n2 c2, .int .i64 f3, .slice A4 n4 c4, .int .i64 f5, .slice A6 n6 c6]) (by repeat (first | exact List.mem_cons_self | refine List.mem_cons_of_mem _ ?_))).c7
                  obtain ⟨y0, y1, y2, y3, y4, y5, y6⟩ := (X.out.box (g := w.heap.size + 1) (cs := [.int .i64 f0, .bool f1, .slice B2 n2 k2, .int .i64 f3, .slice B4 m4 k4, .int .i64 f5, .slice B6 m6 k6]) (by repeat (first | exact List.mem_cons_self | refine List.mem_cons_of_mem _ ?_))).c7
                  go_wp2_with fail
                  refine (specSame _ _ A4 B4 n4 m4 c4 k4 _ (HL4.out.below X.out.1) (HR4.out.below X.out.1) HT4.out HU4.out hn4).mono ?_
                  rintro e w4 ⟨rfl, hb⟩
                  clear x0 y0 x1 y1 x2 y2 x3 y3 x4 y4 x5 y5 x6 y6
                  rw [HE4.out]
                  replace X := Lib.hid (X.out.below hb)
                  clear hb
                  obtain ⟨x0, x1, x2, x3, x4, x5, x6⟩ := (X.out.box (g := w.heap.size) (cs := [.int .i64 f0, .bool f1, .slice A2 n2 c2, .int .i64 f3, .slice A4 n4 c4, .int .i64 f5, .slice A6 n6 c6]) (by repeat (first | exact List.mem_cons_self | refine List.mem_cons_of_mem _ ?_))).c7
                  obtain ⟨y0, y1, y2, y3, y4, y5, y6⟩ := (X.out.box (g := w.heap.size + 1) (cs := [.int .i64 f0, .bool f1, .slice B2 n2 k2, .int .i64 f3, .slice B4 m4 k4, .int .i64 f5, .slice B6 m6 k6]) (by repeat (first | exact List.mem_cons_self | refine List.mem_cons_of_mem _ ?_))).c7
                  go_wp2_with fail
                  go_ret
                  exact GivesBool.of HN.out X.out.1
          · have HN : Hid (false = eq1 (.r [.i f0, .b f1, .l L2, .i f3, .l L4, .i f5, .l L6]) (.r [.i f0, .b f1, .l M2, .i f3, .l M4, .i f5, .l M6])) := by
              refine Lib.hid (eq1_no (fun x => e2 ?_)).symm
              have e9 : L2 = M2 := by
                simp at x
                exact x.1
              rw [← HC2.out, ← HC2'.out, e9]
            have hb2 : ((n2 : Int) == (m2 : Int)) = false := by rw [beq_eq_false_iff_ne]; omega
            have hd2 : ((n2 : Int) != (m2 : Int)) = true := by rw [bne_iff_ne]; omega
            go_enter Try.func107, Try.ntmps107
            go_wp2_with fail
            go_ret
            exact GivesBool.of HN.out X.out.1
        · have HN : Hid (false = eq1 (.r [.i f0, .b f1, .l L2, .i f3, .l L4, .i f5, .l L6]) (.r [.i f0, .b f1, .l M2, .i f3, .l M4, .i g5, .l M6])) := Lib.hid (eq1_no (by simp [e5])).symm
          have hb5 : (f5 == g5) = false := by simpa using e5
          have hd5 : (f5 != g5) = true := by simpa using e5
          go_enter Try.func107, Try.ntmps107
          go_wp2_with fail
          go_ret
          exact GivesBool.of HN.out X.out.1
      · have HN : Hid (false = eq1 (.r [.i f0, .b f1, .l L2, .i f3, .l L4, .i f5, .l L6]) (.r [.i f0, .b f1, .l M2, .i g3, .l M4, .i g5, .l M6])) := Lib.hid (eq1_no (by simp [e3])).symm
        have hb3 : (f3 == g3) = false := by simpa using e3
        have hd3 : (f3 != g3) = true := by simpa using e3
        go_enter Try.func107, Try.ntmps107
        go_wp2_with fail
        go_ret
        exact GivesBool.of HN.out X.out.1
    · have HN : Hid (false = eq1 (.r [.i f0, .b f1, .l L2, .i f3, .l L4, .i f5, .l L6]) (.r [.i f0, .b g1, .l M2, .i g3, .l M4, .i g5, .l M6])) := Lib.hid (eq1_no (by simp [e1])).symm
      have hb1 : (f1 == g1) = false := (by cases f1 <;> cases g1 <;> simp_all)
      have hd1 : (f1 != g1) = true := (by cases f1 <;> cases g1 <;> simp_all)
      go_enter Try.func107, Try.ntmps107
      go_wp2_with fail
      go_ret
      exact GivesBool.of HN.out X.out.1
  · have HN : Hid (false = eq1 (.r [.i f0, .b f1, .l L2, .i f3, .l L4, .i f5, .l L6]) (.r [.i g0, .b g1, .l M2, .i g3, .l M4, .i g5, .l M6])) := Lib.hid (eq1_no (by simp [e0])).symm
    have hb0 : (f0 == g0) = false := by simpa using e0
    have hd0 : (f0 != g0) = true := by simpa using e0
    go_enter Try.func107, Try.ntmps107
    go_wp2_with fail
    go_ret
    exact GivesBool.of HN.out X.out.1
end Go.Proofs.Ytmeacgpebpfpbaa
