/- Chapter 11: the reference's EqualMessages. -/
import Derived.Test.YtmeacgpebpfpbaaCom
import Derived.Test.YtmeacgpebpfpbaaEqMA
import Derived.LoopTactic
import Derived.Lib.Hide
import Derived.Deep.QuietTactic
import Derived.BigQuiet
import Derived.Deep.RegionWith
import Derived.Handy
namespace Go.Proofs.Ytmeacgpebpfpbaa
open Go.RowKit
set_option linter.unusedVariables false
set_option linter.unusedSimpArgs false
set_option maxRecDepth 100000 in
set_option maxHeartbeats 40000000 in
theorem specEqMsg (f0 : Int) (f1 : Int) (f2 : Int) (f3 : Int) (f4 : ByteArray) (L5 : List Dat) (A5 : Option Addr) (n5 c5 : Nat) (f6_0 : Int) (f6_1 : Int) (f7 : Int) (f8_0 : Int) (f8_1 : Int) (f8_2 : Int) (g0 : Int) (g1 : Int) (g2 : Int) (g3 : Int) (g4 : ByteArray) (M5 : List Dat) (B5 : Option Addr) (m5 k5 : Nat) (g6_0 : Int) (g6_1 : Int) (g7 : Int) (g8_0 : Int) (g8_1 : Int) (g8_2 : Int) (w : World) (hl5 : Lies w (.l L5) [.slice A5 n5 c5]) (hr5 : Lies w (.l M5) [.slice B5 m5 k5]) (ht5 : ∀ x ∈ L5, Has tyWire x) (hu5 : ∀ x ∈ M5, Has tyWire x) (hn5 : n5 ≤ 1099511627776) : Calls Try.prog 108 #[.agg #[.int .i64 f0, .int .i64 f1, .int .i64 f2, .int .i64 f3, .string f4, .slice A5 n5 c5, .int .i64 f6_0, .int .i64 f6_1, .int .i64 f7, .int .i64 f8_0, .int .i64 f8_1, .int .i64 f8_2], .agg #[.int .i64 g0, .int .i64 g1, .int .i64 g2, .int .i64 g3, .string g4, .slice B5 m5 k5, .int .i64 g6_0, .int .i64 g6_1, .int .i64 g7, .int .i64 g8_0, .int .i64 g8_1, .int .i64 g8_2]] w (GivesBool (eq1 (.r [.i f0, .i f1, .i f2, .i f3, .s f4, .l L5, .r [.i f6_0, .i f6_1], .i f7, .r [.i f8_0, .i f8_1, .i f8_2]]) (.r [.i g0, .i g1, .i g2, .i g3, .s g4, .l M5, .r [.i g6_0, .i g6_1], .i g7, .r [.i g8_0, .i g8_1, .i g8_2]])) w) := by
  have HC5 := Lib.hid hl5.count
  have HC5' := Lib.hid hr5.count
  have HL5 := Lib.hid hl5
  have HR5 := Lib.hid hr5
  have HT5 := Lib.hid ht5
  have HU5 := Lib.hid hu5
  clear hl5 hr5 ht5 hu5
  have X := ((Held.start w).push #[.int .i64 f0, .int .i64 f1, .int .i64 f2, .int .i64 f3, .string f4, .slice A5 n5 c5, .int .i64 f6_0, .int .i64 f6_1, .int .i64 f7, .int .i64 f8_0, .int .i64 f8_1, .int .i64 f8_2] 112).push #[.int .i64 g0, .int .i64 g1, .int .i64 g2, .int .i64 g3, .string g4, .slice B5 m5 k5, .int .i64 g6_0, .int .i64 g6_1, .int .i64 g7, .int .i64 g8_0, .int .i64 g8_1, .int .i64 g8_2] 112
  simp only [World.size_alloc] at X
  replace X := Lib.hid X
  by_cases e0 : f0 = g0
  · subst e0
    by_cases e1 : f1 = g1
    · subst e1
      by_cases e2 : f2 = g2
      · subst e2
        by_cases e3 : f3 = g3
        · subst e3
          by_cases e4 : f4 = g4
          · subst e4
            by_cases e6_0 : f6_0 = g6_0
            · subst e6_0
              by_cases e6_1 : f6_1 = g6_1
              · subst e6_1
                by_cases e7 : f7 = g7
                · subst e7
                  by_cases e8_0 : f8_0 = g8_0
                  · subst e8_0
                    by_cases e8_1 : f8_1 = g8_1
                    · subst e8_1
                      by_cases e8_2 : f8_2 = g8_2
                      · subst e8_2
                        by_cases e5 : n5 = m5
                        · subst e5
                          go_enter Try.func108, Try.ntmps108
                          go_wp2_with fail
                          go_loopw [5] (fun iv wr => ∃ i : Nat, i ≤ n5 ∧ iv = .int .i64 i ∧ L5.take i = M5.take i ∧ Held w [(w.heap.size + 1, [.int .i64 f0, .int .i64 f1, .int .i64 f2, .int .i64 f3, .string f4, .slice B5 n5 k5, .int .i64 f6_0, .int .i64 f6_1, .int .i64 f7, .int .i64 f8_0, .int .i64 f8_1, .int .i64 f8_2]), (w.heap.size, [.int .i64 f0, .int .i64 f1, .int .i64 f2, .int .i64 f3, .string f4, .slice A5 n5 c5, .int .i64 f6_0, .int .i64 f6_1, .int .i64 f7, .int .i64 f8_0, .int .i64 f8_1, .int .i64 f8_2])] wr) (fun iv _ => n5 - (intOf iv).toNat)
                          case atStart => exact ⟨0, Nat.zero_le _, rfl, rfl, X.out⟩
                          case round =>
                            obtain ⟨i, hin, rfl, hal, hX⟩ := hrel
                            clear X
                            have X := Lib.hid hX
                            have HA := Lib.hid hal
                            clear hX hal
                            by_cases hlt : i < n5
                            · obtain ⟨b, off, d, xs, rfl, hbw, hzi, hlie, hlen, hcellr⟩ := (HL5.out.below X.out.1).elem (fun x hx => (HT5.out x hx).width) hlt
                              obtain ⟨b', off', d', xs', rfl, hbw', hzi', hlie', hlen', hcells⟩ := (HR5.out.below X.out.1).elem (fun x hx => (HU5.out x hx).width) hlt
                              obtain ⟨q0, q1, rfl, rfl⟩ := invWire (HU5.out d' (List.mem_of_getElem? hzi')) hlie'
                              obtain ⟨p0, p1, rfl, rfl⟩ := invWire (HT5.out d (List.mem_of_getElem? hzi)) hlie
                              have r0 : wr.cell? ⟨b, off + i * 2, none⟩ = some (.int .i64 p0) := hcellr 0 _ rfl
                              have s0 : wr.cell? ⟨b', off' + i * 2, none⟩ = some (.int .i64 q0) := hcells 0 _ rfl
                              have r1 : wr.cell? ⟨b, off + i * 2 + 1, none⟩ = some (.int .i64 p1) := hcellr 1 _ rfl
                              have s1 : wr.cell? ⟨b', off' + i * 2 + 1, none⟩ = some (.int .i64 q1) := hcells 1 _ rfl
                              have HZ := Lib.hid hzi
                              have HZ' := Lib.hid hzi'
                              clear hzi hzi' hcellr hcells hlie hlie'
                              have x5 := X.out.at_ (g := w.heap.size) (i := 5) (v := .slice (some ⟨b, off, none⟩) n5 c5) (cs := [.int .i64 f0, .int .i64 f1, .int .i64 f2, .int .i64 f3, .string f4, .slice (some ⟨b, off, none⟩) n5 c5, .int .i64 f6_0, .int .i64 f6_1, .int .i64 f7, .int .i64 f8_0, .int .i64 f8_1, .int .i64 f8_2]) (by repeat (first | exact List.mem_cons_self | refine List.mem_cons_of_mem _ ?_)) rfl
                              have y5 := X.out.at_ (g := w.heap.size + 1) (i := 5) (v := .slice (some ⟨b', off', none⟩) n5 k5) (cs := [.int .i64 f0, .int .i64 f1, .int .i64 f2, .int .i64 f3, .string f4, .slice (some ⟨b', off', none⟩) n5 k5, .int .i64 f6_0, .int .i64 f6_1, .int .i64 f7, .int .i64 f8_0, .int .i64 f8_1, .int .i64 f8_2]) (by repeat (first | exact List.mem_cons_self | refine List.mem_cons_of_mem _ ?_)) rfl
                              obtain ⟨v, hv⟩ : ∃ v, (p0 == q0 && p1 == q1) = v := ⟨_, rfl⟩
                              have HV := Lib.hid hv
                              clear hv
                              go_wp2
                              refine wp_region_quiet_lit (by kernel_rfl) (by kernel_rfl) ?_
                              repeat (first
                                | (refine BigFrame.wpQuiet_want (by rfl) (fun K hK => ?_); refine quiet_neq_m2 rfl _ _ _ rfl rfl rfl v HV.out ?_; refine hK _ ?_; clear hK K)
                                | go_big_quiet_step (fail)
                                | quiet_step (fail))
                              refine wpQuiet_nil ?_
                              intro _ hw'
                              obtain ⟨nq, hw''⟩ := hw'
                              subst hw''
                              cases v with
                              | true =>
                                have HN : Hid (L5.take (i + 1) = M5.take (i + 1)) := Lib.hid (by
                                  have e8 := HV.out
                                  simp only [Bool.and_eq_true, beq_iff_eq] at e8
                                  obtain ⟨rfl, rfl⟩ := e8
                                  exact take_nextD HA.out HZ.out HZ'.out)
                                go_wp2
                                go_roundw
                                case rel => exact ⟨i + 1, by omega, by go_num, HN.out, X.out.drewN _⟩
                                case measure => (simp [intOf]; try omega)
                              | false =>
                                have HN : Hid (false = eq1 (.r [.i f0, .i f1, .i f2, .i f3, .s f4, .l L5, .r [.i f6_0, .i f6_1], .i f7, .r [.i f8_0, .i f8_1, .i f8_2]]) (.r [.i f0, .i f1, .i f2, .i f3, .s f4, .l M5, .r [.i f6_0, .i f6_1], .i f7, .r [.i f8_0, .i f8_1, .i f8_2]])) := by
                                  refine Lib.hid (eq1_no (fun x => ?_)).symm
                                  have e9 : L5 = M5 := by
                                    simp at x
                                    exact x
                                  have e8 := HZ.out
                                  rw [e9, HZ'.out] at e8
                                  have e7 := Option.some.inj e8
                                  simp at e7
                                  have e6 := HV.out
                                  simp [e7] at e6
                                go_wp2
                                go_ret
                                exact GivesBool.of HN.out (below_drewN X.out.1 _)
                            · obtain rfl : n5 = i := by omega
                              have e5 : L5 = M5 := eqD_iff.1 (eqD_all HC5.out HC5'.out HA.out)
                              subst e5
                              have x5 := X.out.at_ (g := w.heap.size) (i := 5) (v := .slice A5 n5 c5) (cs := [.int .i64 f0, .int .i64 f1, .int .i64 f2, .int .i64 f3, .string f4, .slice A5 n5 c5, .int .i64 f6_0, .int .i64 f6_1, .int .i64 f7, .int .i64 f8_0, .int .i64 f8_1, .int .i64 f8_2]) (by repeat (first | exact List.mem_cons_self | refine List.mem_cons_of_mem _ ?_)) rfl
                              have HN := Lib.hid (eq1_yes (.r [.i f0, .i f1, .i f2, .i f3, .s f4, .l L5, .r [.i f6_0, .i f6_1], .i f7, .r [.i f8_0, .i f8_1, .i f8_2]])).symm
                              go_wp2_with fail
                              go_ret
                              exact GivesBool.of HN.out X.out.1
                        · have HN : Hid (false = eq1 (.r [.i f0, .i f1, .i f2, .i f3, .s f4, .l L5, .r [.i f6_0, .i f6_1], .i f7, .r [.i f8_0, .i f8_1, .i f8_2]]) (.r [.i f0, .i f1, .i f2, .i f3, .s f4, .l M5, .r [.i f6_0, .i f6_1], .i f7, .r [.i f8_0, .i f8_1, .i f8_2]])) := by
                            refine Lib.hid (eq1_no (fun x => e5 ?_)).symm
                            have e9 : L5 = M5 := by
                              simp at x
                              exact x
                            rw [← HC5.out, ← HC5'.out, e9]
                          have hb5 : ((n5 : Int) == (m5 : Int)) = false := by rw [beq_eq_false_iff_ne]; omega
                          have hd5 : ((n5 : Int) != (m5 : Int)) = true := by rw [bne_iff_ne]; omega
                          go_enter Try.func108, Try.ntmps108
                          go_wp2_with fail
                          go_ret
                          exact GivesBool.of HN.out X.out.1
                      · have HN : Hid (false = eq1 (.r [.i f0, .i f1, .i f2, .i f3, .s f4, .l L5, .r [.i f6_0, .i f6_1], .i f7, .r [.i f8_0, .i f8_1, .i f8_2]]) (.r [.i f0, .i f1, .i f2, .i f3, .s f4, .l M5, .r [.i f6_0, .i f6_1], .i f7, .r [.i f8_0, .i f8_1, .i g8_2]])) := Lib.hid (eq1_no (by simp [e8_2])).symm
                        have hb8_2 : (f8_2 == g8_2) = false := by simpa using e8_2
                        have hd8_2 : (f8_2 != g8_2) = true := by simpa using e8_2
                        go_enter Try.func108, Try.ntmps108
                        go_wp2_with fail
                        go_ret
                        exact GivesBool.of HN.out X.out.1
                    · have HN : Hid (false = eq1 (.r [.i f0, .i f1, .i f2, .i f3, .s f4, .l L5, .r [.i f6_0, .i f6_1], .i f7, .r [.i f8_0, .i f8_1, .i f8_2]]) (.r [.i f0, .i f1, .i f2, .i f3, .s f4, .l M5, .r [.i f6_0, .i f6_1], .i f7, .r [.i f8_0, .i g8_1, .i g8_2]])) := Lib.hid (eq1_no (by simp [e8_1])).symm
                      have hb8_1 : (f8_1 == g8_1) = false := by simpa using e8_1
                      have hd8_1 : (f8_1 != g8_1) = true := by simpa using e8_1
                      go_enter Try.func108, Try.ntmps108
                      go_wp2_with fail
                      go_ret
                      exact GivesBool.of HN.out X.out.1
                  · have HN : Hid (false = eq1 (.r [.i f0, .i f1, .i f2, .i f3, .s f4, .l L5, .r [.i f6_0, .i f6_1], .i f7, .r [.i f8_0, .i f8_1, .i f8_2]]) (.r [.i f0, .i f1, .i f2, .i f3, .s f4, .l M5, .r [.i f6_0, .i f6_1], .i f7, .r [.i g8_0, .i g8_1, .i g8_2]])) := Lib.hid (eq1_no (by simp [e8_0])).symm
                    have hb8_0 : (f8_0 == g8_0) = false := by simpa using e8_0
                    have hd8_0 : (f8_0 != g8_0) = true := by simpa using e8_0
                    go_enter Try.func108, Try.ntmps108
                    go_wp2_with fail
                    go_ret
                    exact GivesBool.of HN.out X.out.1
                · have HN : Hid (false = eq1 (.r [.i f0, .i f1, .i f2, .i f3, .s f4, .l L5, .r [.i f6_0, .i f6_1], .i f7, .r [.i f8_0, .i f8_1, .i f8_2]]) (.r [.i f0, .i f1, .i f2, .i f3, .s f4, .l M5, .r [.i f6_0, .i f6_1], .i g7, .r [.i g8_0, .i g8_1, .i g8_2]])) := Lib.hid (eq1_no (by simp [e7])).symm
                  have hb7 : (f7 == g7) = false := by simpa using e7
                  have hd7 : (f7 != g7) = true := by simpa using e7
                  go_enter Try.func108, Try.ntmps108
                  go_wp2_with fail
                  go_ret
                  exact GivesBool.of HN.out X.out.1
              · have HN : Hid (false = eq1 (.r [.i f0, .i f1, .i f2, .i f3, .s f4, .l L5, .r [.i f6_0, .i f6_1], .i f7, .r [.i f8_0, .i f8_1, .i f8_2]]) (.r [.i f0, .i f1, .i f2, .i f3, .s f4, .l M5, .r [.i f6_0, .i g6_1], .i g7, .r [.i g8_0, .i g8_1, .i g8_2]])) := Lib.hid (eq1_no (by simp [e6_1])).symm
                have hb6_1 : (f6_1 == g6_1) = false := by simpa using e6_1
                have hd6_1 : (f6_1 != g6_1) = true := by simpa using e6_1
                go_enter Try.func108, Try.ntmps108
                go_wp2_with fail
                go_ret
                exact GivesBool.of HN.out X.out.1
            · have HN : Hid (false = eq1 (.r [.i f0, .i f1, .i f2, .i f3, .s f4, .l L5, .r [.i f6_0, .i f6_1], .i f7, .r [.i f8_0, .i f8_1, .i f8_2]]) (.r [.i f0, .i f1, .i f2, .i f3, .s f4, .l M5, .r [.i g6_0, .i g6_1], .i g7, .r [.i g8_0, .i g8_1, .i g8_2]])) := Lib.hid (eq1_no (by simp [e6_0])).symm
              have hb6_0 : (f6_0 == g6_0) = false := by simpa using e6_0
              have hd6_0 : (f6_0 != g6_0) = true := by simpa using e6_0
              go_enter Try.func108, Try.ntmps108
              go_wp2_with fail
              go_ret
              exact GivesBool.of HN.out X.out.1
          · have HN : Hid (false = eq1 (.r [.i f0, .i f1, .i f2, .i f3, .s f4, .l L5, .r [.i f6_0, .i f6_1], .i f7, .r [.i f8_0, .i f8_1, .i f8_2]]) (.r [.i f0, .i f1, .i f2, .i f3, .s g4, .l M5, .r [.i g6_0, .i g6_1], .i g7, .r [.i g8_0, .i g8_1, .i g8_2]])) := Lib.hid (eq1_no (by simp [e4])).symm
            have hb4 := bytesNeb e4
            have hd4 : (f4.toList != g4.toList) = true := by simp [bne, hb4]
            have he4 := bytesNe e4
            go_enter Try.func108, Try.ntmps108
            go_wp2_with fail
            go_ret
            exact GivesBool.of HN.out X.out.1
        · have HN : Hid (false = eq1 (.r [.i f0, .i f1, .i f2, .i f3, .s f4, .l L5, .r [.i f6_0, .i f6_1], .i f7, .r [.i f8_0, .i f8_1, .i f8_2]]) (.r [.i f0, .i f1, .i f2, .i g3, .s g4, .l M5, .r [.i g6_0, .i g6_1], .i g7, .r [.i g8_0, .i g8_1, .i g8_2]])) := Lib.hid (eq1_no (by simp [e3])).symm
          have hb3 : (f3 == g3) = false := by simpa using e3
          have hd3 : (f3 != g3) = true := by simpa using e3
          go_enter Try.func108, Try.ntmps108
          go_wp2_with fail
          go_ret
          exact GivesBool.of HN.out X.out.1
      · have HN : Hid (false = eq1 (.r [.i f0, .i f1, .i f2, .i f3, .s f4, .l L5, .r [.i f6_0, .i f6_1], .i f7, .r [.i f8_0, .i f8_1, .i f8_2]]) (.r [.i f0, .i f1, .i g2, .i g3, .s g4, .l M5, .r [.i g6_0, .i g6_1], .i g7, .r [.i g8_0, .i g8_1, .i g8_2]])) := Lib.hid (eq1_no (by simp [e2])).symm
        have hb2 : (f2 == g2) = false := by simpa using e2
        have hd2 : (f2 != g2) = true := by simpa using e2
        go_enter Try.func108, Try.ntmps108
        go_wp2_with fail
        go_ret
        exact GivesBool.of HN.out X.out.1
    · have HN : Hid (false = eq1 (.r [.i f0, .i f1, .i f2, .i f3, .s f4, .l L5, .r [.i f6_0, .i f6_1], .i f7, .r [.i f8_0, .i f8_1, .i f8_2]]) (.r [.i f0, .i g1, .i g2, .i g3, .s g4, .l M5, .r [.i g6_0, .i g6_1], .i g7, .r [.i g8_0, .i g8_1, .i g8_2]])) := Lib.hid (eq1_no (by simp [e1])).symm
      have hb1 : (f1 == g1) = false := by simpa using e1
      have hd1 : (f1 != g1) = true := by simpa using e1
      go_enter Try.func108, Try.ntmps108
      go_wp2_with fail
      go_ret
      exact GivesBool.of HN.out X.out.1
  · have HN : Hid (false = eq1 (.r [.i f0, .i f1, .i f2, .i f3, .s f4, .l L5, .r [.i f6_0, .i f6_1], .i f7, .r [.i f8_0, .i f8_1, .i f8_2]]) (.r [.i g0, .i g1, .i g2, .i g3, .s g4, .l M5, .r [.i g6_0, .i g6_1], .i g7, .r [.i g8_0, .i g8_1, .i g8_2]])) := Lib.hid (eq1_no (by simp [e0])).symm
    have hb0 : (f0 == g0) = false := by simpa using e0
    have hd0 : (f0 != g0) = true := by simpa using e0
    go_enter Try.func108, Try.ntmps108
    go_wp2_with fail
    go_ret
    exact GivesBool.of HN.out X.out.1
end Go.Proofs.Ytmeacgpebpfpbaa
