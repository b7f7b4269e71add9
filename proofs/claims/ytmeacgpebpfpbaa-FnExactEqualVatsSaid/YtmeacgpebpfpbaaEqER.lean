/- The reference's EqualEntities. -/
import Derived.Test.YtmeacgpebpfpbaaCom
import Derived.Test.YtmeacgpebpfpbaaSentR
import Derived.Test.YtmeacgpebpfpbaaAskE
import Derived.LoopTactic
import Derived.Lib.Hide
import Derived.Deep.QuietTactic
import Derived.BigQuiet
import Derived.Deep.RegionWith
import Derived.Handy
namespace Go.Proofs.Ytmeacgpebpfpbaa
open Go.RowKit
set_option linter.unusedVariables false
set_option linter.unusedSimpArgs false
theorem run_neq_ask (p0 p1 q0 q1 : Int) (w : World) :
    (binOp .neq 119 (.agg #[.int .i64 p0, .int .i64 p1]) (.agg #[.int .i64 q0, .int .i64 q1])).run Try.prog w = .ok (.bool (!(p0 == q0 && p1 == q1))) w := by
  by_cases h0 : p0 = q0
  · subst h0
    by_cases h1 : p1 = q1
    · subst h1
      simp [go_sem]
    · have b1 : (p1 == q1) = false := by simpa using h1
      simp [go_sem, b1]
  · have b1 : (p0 == q0) = false := by simpa using h0
    simp [go_sem, b1]
/-- '!=' on two askers, at a step of a region that only reads. -/
theorem quiet_neq_ask {P : Program} (hP : P = Try.prog) {o : Oper} {a : Act} {C : World → Prop} {K : Act → Prop} (T : TypeId) (x y : Operand) (h : o.op = .binOp .neq 119 x y T) {p0 p1 q0 q1 : Int}
    (hx : a.eval x = .agg #[.int .i64 p0, .int .i64 p1]) (hy : a.eval y = .agg #[.int .i64 q0, .int .i64 q1]) (v : Bool) (hv : (p0 == q0 && p1 == q1) = v)
    (hk : K (a.put o.dst (.bool (!v)))) : o.quiet P a C K := by
  subst hP hv
  refine ⟨_, fun w _ => ?_, hk⟩
  unfold Oper.quietAt
  have e : (execOp a.eval o).run Try.prog w = .ok (.value (.bool (!(p0 == q0 && p1 == q1)))) w := by
    have hr := run_neq_ask p0 p1 q0 q1 w
    have hg : Try.prog.eqGuardType Try.prog.depth 119 = false := by kernel_rfl
    unfold execOp
    rw [h]
    simp only [hx, hy]
    simp [eqGuard, hg, hr, Result.andThen]
  rw [e]
  exact ⟨rfl, rfl⟩
set_option maxRecDepth 100000 in
set_option maxHeartbeats 40000000 in
theorem specEqEnt (f0 : Int) (f1 : Int) (L2 : List Dat) (A2 : Option Addr) (n2 c2 : Nat) (f3 : Int) (f4_0 : Int) (f4_1 : Int) (L5 : List Dat) (A5 : Option Addr) (n5 c5 : Nat) (L6 : List Dat) (A6 : Option Addr) (n6 c6 : Nat) (f7 : Int) (f8 : Int) (f9 : Int) (f10 : Int) (g0 : Int) (g1 : Int) (M2 : List Dat) (B2 : Option Addr) (m2 k2 : Nat) (g3 : Int) (g4_0 : Int) (g4_1 : Int) (M5 : List Dat) (B5 : Option Addr) (m5 k5 : Nat) (M6 : List Dat) (B6 : Option Addr) (m6 k6 : Nat) (g7 : Int) (g8 : Int) (g9 : Int) (g10 : Int) (w : World) (hl2 : Lies w (.l L2) [.slice A2 n2 c2]) (hr2 : Lies w (.l M2) [.slice B2 m2 k2]) (ht2 : ∀ x ∈ L2, Has tyValue x) (hu2 : ∀ x ∈ M2, Has tyValue x) (hn2 : n2 ≤ 1099511627776) (hl5 : Lies w (.l L5) [.slice A5 n5 c5]) (hr5 : Lies w (.l M5) [.slice B5 m5 k5]) (ht5 : ∀ x ∈ L5, Has tySent x) (hu5 : ∀ x ∈ M5, Has tySent x) (hn5 : (Dat.l L5).bulk ≤ 1099511627776) (hv5 : m5 ≤ 9223372036854775807) (hl6 : Lies w (.l L6) [.slice A6 n6 c6]) (hr6 : Lies w (.l M6) [.slice B6 m6 k6]) (ht6 : ∀ x ∈ L6, Has tyAsker x) (hu6 : ∀ x ∈ M6, Has tyAsker x) (hn6 : n6 ≤ 1099511627776) (hv6 : m6 ≤ 9223372036854775807) : Calls Try.prog 106 #[.agg #[.int .i64 f0, .int .i64 f1, .slice A2 n2 c2, .int .i64 f3, .int .i64 f4_0, .int .i64 f4_1, .slice A5 n5 c5, .slice A6 n6 c6, .int .i64 f7, .int .i64 f8, .int .i64 f9, .int .i64 f10], .agg #[.int .i64 g0, .int .i64 g1, .slice B2 m2 k2, .int .i64 g3, .int .i64 g4_0, .int .i64 g4_1, .slice B5 m5 k5, .slice B6 m6 k6, .int .i64 g7, .int .i64 g8, .int .i64 g9, .int .i64 g10]] w (GivesBool (eq1 (.r [.i f0, .i f1, .l L2, .i f3, .r [.i f4_0, .i f4_1], .l L5, .l L6, .i f7, .i f8, .i f9, .i f10]) (.r [.i g0, .i g1, .l M2, .i g3, .r [.i g4_0, .i g4_1], .l M5, .l M6, .i g7, .i g8, .i g9, .i g10])) w) := by
  have HC6 := Lib.hid hl6.count
  have HC6' := Lib.hid hr6.count
  have HL2 := Lib.hid hl2
  have HR2 := Lib.hid hr2
  have HT2 := Lib.hid ht2
  have HU2 := Lib.hid hu2
  clear hl2 hr2 ht2 hu2
  have HL5 := Lib.hid hl5
  have HR5 := Lib.hid hr5
  have HT5 := Lib.hid ht5
  have HU5 := Lib.hid hu5
  clear hl5 hr5 ht5 hu5
  have HL6 := Lib.hid hl6
  have HR6 := Lib.hid hr6
  have HT6 := Lib.hid ht6
  have HU6 := Lib.hid hu6
  clear hl6 hr6 ht6 hu6
  have X := ((Held.start w).push #[.int .i64 f0, .int .i64 f1, .slice A2 n2 c2, .int .i64 f3, .int .i64 f4_0, .int .i64 f4_1, .slice A5 n5 c5, .slice A6 n6 c6, .int .i64 f7, .int .i64 f8, .int .i64 f9, .int .i64 f10] 38).push #[.int .i64 g0, .int .i64 g1, .slice B2 m2 k2, .int .i64 g3, .int .i64 g4_0, .int .i64 g4_1, .slice B5 m5 k5, .slice B6 m6 k6, .int .i64 g7, .int .i64 g8, .int .i64 g9, .int .i64 g10] 38
  simp only [World.size_alloc] at X
  replace X := Lib.hid X
  by_cases e0 : f0 = g0
  · subst e0
    by_cases e1 : f1 = g1
    · subst e1
      by_cases e2 : L2 = M2
      · subst e2
        by_cases e3 : f3 = g3
        · subst e3
          by_cases e4_0 : f4_0 = g4_0
          · subst e4_0
            by_cases e4_1 : f4_1 = g4_1
            · subst e4_1
              by_cases e5 : L5 = M5
              · subst e5
                by_cases e6 : n6 = m6
                · subst e6
                  go_enter Try.func106, Try.ntmps106
                  go_wp2_with fail
                  refine (specEqVD (HL2.out.below X.out.1) (HR2.out.below X.out.1) HT2.out HU2.out hn2).mono ?_
                  rintro e w2 ⟨rfl, hb⟩
                  rw [eqD_yes]
                  replace X := Lib.hid (X.out.below hb)
                  clear hb
                  obtain ⟨x0, x1, x2, x3, x4, x5, x6, x7, x8, x9, x10, x11⟩ := (X.out.box (g := w.heap.size) (cs := [.int .i64 f0, .int .i64 f1, .slice A2 n2 c2, .int .i64 f3, .int .i64 f4_0, .int .i64 f4_1, .slice A5 n5 c5, .slice A6 n6 c6, .int .i64 f7, .int .i64 f8, .int .i64 f9, .int .i64 f10]) (by repeat (first | exact List.mem_cons_self | refine List.mem_cons_of_mem _ ?_))).c12
                  obtain ⟨y0, y1, y2, y3, y4, y5, y6, y7, y8, y9, y10, y11⟩ := (X.out.box (g := w.heap.size + 1) (cs := [.int .i64 f0, .int .i64 f1, .slice B2 m2 k2, .int .i64 f3, .int .i64 f4_0, .int .i64 f4_1, .slice B5 m5 k5, .slice B6 n6 k6, .int .i64 g7, .int .i64 g8, .int .i64 g9, .int .i64 g10]) (by repeat (first | exact List.mem_cons_self | refine List.mem_cons_of_mem _ ?_))).c12
                  go_wp2_with fail
                  refine (specEqSents _ _ A5 B5 n5 c5 m5 k5 _ (HL5.out.below X.out.1) (HR5.out.below X.out.1) HT5.out HU5.out hn5 hv5).mono ?_
                  rintro e w5 h9
                  obtain ⟨rfl, hb⟩ := QuietB.gives h9
                  clear h9
                  clear x0 y0 x1 y1 x2 y2 x3 y3 x4 y4 x5 y5 x6 y6 x7 y7 x8 y8 x9 y9 x10 y10 x11 y11
                  rw [eqD_yes]
                  replace X := Lib.hid (X.out.below hb)
                  clear hb
                  obtain ⟨x0, x1, x2, x3, x4, x5, x6, x7, x8, x9, x10, x11⟩ := (X.out.box (g := w.heap.size) (cs := [.int .i64 f0, .int .i64 f1, .slice A2 n2 c2, .int .i64 f3, .int .i64 f4_0, .int .i64 f4_1, .slice A5 n5 c5, .slice A6 n6 c6, .int .i64 f7, .int .i64 f8, .int .i64 f9, .int .i64 f10]) (by repeat (first | exact List.mem_cons_self | refine List.mem_cons_of_mem _ ?_))).c12
                  obtain ⟨y0, y1, y2, y3, y4, y5, y6, y7, y8, y9, y10, y11⟩ := (X.out.box (g := w.heap.size + 1) (cs := [.int .i64 f0, .int .i64 f1, .slice B2 m2 k2, .int .i64 f3, .int .i64 f4_0, .int .i64 f4_1, .slice B5 m5 k5, .slice B6 n6 k6, .int .i64 g7, .int .i64 g8, .int .i64 g9, .int .i64 g10]) (by repeat (first | exact List.mem_cons_self | refine List.mem_cons_of_mem _ ?_))).c12
                  go_wp2_with fail
                  go_loopw [5] (fun iv wr => ∃ i : Nat, i ≤ n6 ∧ iv = .int .i64 i ∧ L6.take i = M6.take i ∧ Held w [(w.heap.size + 1, [.int .i64 f0, .int .i64 f1, .slice B2 m2 k2, .int .i64 f3, .int .i64 f4_0, .int .i64 f4_1, .slice B5 m5 k5, .slice B6 n6 k6, .int .i64 g7, .int .i64 g8, .int .i64 g9, .int .i64 g10]), (w.heap.size, [.int .i64 f0, .int .i64 f1, .slice A2 n2 c2, .int .i64 f3, .int .i64 f4_0, .int .i64 f4_1, .slice A5 n5 c5, .slice A6 n6 c6, .int .i64 f7, .int .i64 f8, .int .i64 f9, .int .i64 f10])] wr) (fun iv _ => n6 - (intOf iv).toNat)
                  case atStart => exact ⟨0, Nat.zero_le _, rfl, rfl, X.out⟩
                  case round =>
                    obtain ⟨i, hin, rfl, hal, hX⟩ := hrel
                    clear x0 y0 x1 y1 x2 y2 x3 y3 x4 y4 x5 y5 x6 y6 x7 y7 x8 y8 x9 y9 x10 y10 x11 y11
                    clear X
                    have X := Lib.hid hX
                    have HA := Lib.hid hal
                    clear hX hal
                    by_cases hlt : i < n6
                    · obtain ⟨b, off, d, xs, rfl, hbw, hzi, hlie, hlen, hcellr⟩ := (HL6.out.below X.out.1).elem (fun x hx => (HT6.out x hx).width) hlt
                      obtain ⟨b', off', d', xs', rfl, hbw', hzi', hlie', hlen', hcells⟩ := (HR6.out.below X.out.1).elem (fun x hx => (HU6.out x hx).width) hlt
                      obtain ⟨q0, q1, rfl, rfl⟩ := invAsker (HU6.out d' (List.mem_of_getElem? hzi')) hlie'
                      obtain ⟨p0, p1, rfl, rfl⟩ := invAsker (HT6.out d (List.mem_of_getElem? hzi)) hlie
                      have r0 : wr.cell? ⟨b, off + i * 2, none⟩ = some (.int .i64 p0) := hcellr 0 _ rfl
                      have r1 : wr.cell? ⟨b, off + i * 2 + 1, none⟩ = some (.int .i64 p1) := hcellr 1 _ rfl
                      have s0 : wr.cell? ⟨b', off' + i * 2, none⟩ = some (.int .i64 q0) := hcells 0 _ rfl
                      have s1 : wr.cell? ⟨b', off' + i * 2 + 1, none⟩ = some (.int .i64 q1) := hcells 1 _ rfl
                      have HZ := Lib.hid hzi
                      have HZ' := Lib.hid hzi'
                      clear hzi hzi' hcellr hcells hlie hlie'
                      have x6 := X.out.at_ (g := w.heap.size) (i := 7) (v := .slice (some ⟨b, off, none⟩) n6 c6) (cs := [.int .i64 f0, .int .i64 f1, .slice A2 n2 c2, .int .i64 f3, .int .i64 f4_0, .int .i64 f4_1, .slice A5 n5 c5, .slice (some ⟨b, off, none⟩) n6 c6, .int .i64 f7, .int .i64 f8, .int .i64 f9, .int .i64 f10]) (by repeat (first | exact List.mem_cons_self | refine List.mem_cons_of_mem _ ?_)) rfl
                      have y6 := X.out.at_ (g := w.heap.size + 1) (i := 7) (v := .slice (some ⟨b', off', none⟩) n6 k6) (cs := [.int .i64 f0, .int .i64 f1, .slice B2 m2 k2, .int .i64 f3, .int .i64 f4_0, .int .i64 f4_1, .slice B5 m5 k5, .slice (some ⟨b', off', none⟩) n6 k6, .int .i64 g7, .int .i64 g8, .int .i64 g9, .int .i64 g10]) (by repeat (first | exact List.mem_cons_self | refine List.mem_cons_of_mem _ ?_)) rfl
                      obtain ⟨v, hv⟩ : ∃ v, (p0 == q0 && p1 == q1) = v := ⟨_, rfl⟩
                      have HV := Lib.hid hv
                      clear hv
                      go_wp2
                      refine wp_region_quiet_lit (by kernel_rfl) (by kernel_rfl) ?_
                      repeat (first
                        | (refine BigFrame.wpQuiet_want (by rfl) (fun K hK => ?_); refine quiet_neq_ask rfl _ _ _ rfl rfl rfl v HV.out ?_; refine hK _ ?_; clear hK K)
                        | go_big_quiet_step (fail)
                        | quiet_step (fail))
                      refine wpQuiet_nil ?_
                      intro _ hw'
                      obtain ⟨nq, hw''⟩ := hw'
                      subst hw''
                      cases v with
                      | true =>
                        have HN : Hid (L6.take (i + 1) = M6.take (i + 1)) := Lib.hid (by
                          have e8 := HV.out
                          simp only [Bool.and_eq_true, beq_iff_eq] at e8
                          obtain ⟨rfl, rfl⟩ := e8
                          exact take_nextD HA.out HZ.out HZ'.out)
                        go_wp2
                        go_roundw
                        case rel => exact ⟨i + 1, by omega, by go_num, HN.out, X.out.drewN _⟩
                        case measure => simp [intOf]; omega
                      | false =>
                        have HN : Hid (false = eq1 (.r [.i f0, .i f1, .l L2, .i f3, .r [.i f4_0, .i f4_1], .l L5, .l L6, .i f7, .i f8, .i f9, .i f10]) (.r [.i f0, .i f1, .l L2, .i f3, .r [.i f4_0, .i f4_1], .l L5, .l M6, .i g7, .i g8, .i g9, .i g10])) := by
                          refine Lib.hid (eq1_no (fun x => ?_)).symm
                          have e9 : L6 = M6 := by
                            simp at x
                            exact x.1
                          have e8 := HZ.out
                          rw [e9, HZ'.out] at e8
                          have e7 := Option.some.inj e8
                          simp at e7
                          have e6 := HV.out
                          simp [e7] at e6
                        go_wp2
                        go_ret
                        exact GivesBool.of HN.out (below_drewN X.out.1 _)
                    · obtain rfl : n6 = i := by omega
                      have e6 : L6 = M6 := eqD_iff.1 (eqD_all HC6.out HC6'.out HA.out)
                      subst e6
                      by_cases e7 : f7 = g7
                      · subst e7
                        by_cases e8 : f8 = g8
                        · subst e8
                          by_cases e9 : f9 = g9
                          · subst e9
                            by_cases e10 : f10 = g10
                            · subst e10
                              have HN := Lib.hid (eq1_yes (.r [.i f0, .i f1, .l L2, .i f3, .r [.i f4_0, .i f4_1], .l L5, .l L6, .i f7, .i f8, .i f9, .i f10])).symm
                              obtain ⟨x0, x1, x2, x3, x4, x5, x6, x7, x8, x9, x10, x11⟩ := (X.out.box (g := w.heap.size) (cs := [.int .i64 f0, .int .i64 f1, .slice A2 n2 c2, .int .i64 f3, .int .i64 f4_0, .int .i64 f4_1, .slice A5 n5 c5, .slice A6 n6 c6, .int .i64 f7, .int .i64 f8, .int .i64 f9, .int .i64 f10]) (by repeat (first | exact List.mem_cons_self | refine List.mem_cons_of_mem _ ?_))).c12
                              obtain ⟨y0, y1, y2, y3, y4, y5, y6, y7, y8, y9, y10, y11⟩ := (X.out.box (g := w.heap.size + 1) (cs := [.int .i64 f0, .int .i64 f1, .slice B2 m2 k2, .int .i64 f3, .int .i64 f4_0, .int .i64 f4_1, .slice B5 m5 k5, .slice B6 n6 k6, .int .i64 f7, .int .i64 f8, .int .i64 f9, .int .i64 f10]) (by repeat (first | exact List.mem_cons_self | refine List.mem_cons_of_mem _ ?_))).c12
                              go_wp2_with fail
                              go_ret
                              exact GivesBool.of HN.out X.out.1
                            · have HN : Hid (false = eq1 (.r [.i f0, .i f1, .l L2, .i f3, .r [.i f4_0, .i f4_1], .l L5, .l L6, .i f7, .i f8, .i f9, .i f10]) (.r [.i f0, .i f1, .l L2, .i f3, .r [.i f4_0, .i f4_1], .l L5, .l L6, .i f7, .i f8, .i f9, .i g10])) := Lib.hid (eq1_no (by simp [e10])).symm
                              have hb10 : (f10 == g10) = false := by simpa using e10
                              have hd10 : (f10 != g10) = true := by simpa using e10
                              obtain ⟨x0, x1, x2, x3, x4, x5, x6, x7, x8, x9, x10, x11⟩ := (X.out.box (g := w.heap.size) (cs := [.int .i64 f0, .int .i64 f1, .slice A2 n2 c2, .int .i64 f3, .int .i64 f4_0, .int .i64 f4_1, .slice A5 n5 c5, .slice A6 n6 c6, .int .i64 f7, .int .i64 f8, .int .i64 f9, .int .i64 f10]) (by repeat (first | exact List.mem_cons_self | refine List.mem_cons_of_mem _ ?_))).c12
                              obtain ⟨y0, y1, y2, y3, y4, y5, y6, y7, y8, y9, y10, y11⟩ := (X.out.box (g := w.heap.size + 1) (cs := [.int .i64 f0, .int .i64 f1, .slice B2 m2 k2, .int .i64 f3, .int .i64 f4_0, .int .i64 f4_1, .slice B5 m5 k5, .slice B6 n6 k6, .int .i64 f7, .int .i64 f8, .int .i64 f9, .int .i64 g10]) (by repeat (first | exact List.mem_cons_self | refine List.mem_cons_of_mem _ ?_))).c12
                              go_wp2_with fail
                              go_ret
                              exact GivesBool.of HN.out X.out.1
                          · have HN : Hid (false = eq1 (.r [.i f0, .i f1, .l L2, .i f3, .r [.i f4_0, .i f4_1], .l L5, .l L6, .i f7, .i f8, .i f9, .i f10]) (.r [.i f0, .i f1, .l L2, .i f3, .r [.i f4_0, .i f4_1], .l L5, .l L6, .i f7, .i f8, .i g9, .i g10])) := Lib.hid (eq1_no (by simp [e9])).symm
                            have hb9 : (f9 == g9) = false := by simpa using e9
                            have hd9 : (f9 != g9) = true := by simpa using e9
                            obtain ⟨x0, x1, x2, x3, x4, x5, x6, x7, x8, x9, x10, x11⟩ := (X.out.box (g := w.heap.size) (cs := [.int .i64 f0, .int .i64 f1, .slice A2 n2 c2, .int .i64 f3, .int .i64 f4_0, .int .i64 f4_1, .slice A5 n5 c5, .slice A6 n6 c6, .int .i64 f7, .int .i64 f8, .int .i64 f9, .int .i64 f10]) (by repeat (first | exact List.mem_cons_self | refine List.mem_cons_of_mem _ ?_))).c12
                            obtain ⟨y0, y1, y2, y3, y4, y5, y6, y7, y8, y9, y10, y11⟩ := (X.out.box (g := w.heap.size + 1) (cs := [.int .i64 f0, .int .i64 f1, .slice B2 m2 k2, .int .i64 f3, .int .i64 f4_0, .int .i64 f4_1, .slice B5 m5 k5, .slice B6 n6 k6, .int .i64 f7, .int .i64 f8, .int .i64 g9, .int .i64 g10]) (by repeat (first | exact List.mem_cons_self | refine List.mem_cons_of_mem _ ?_))).c12
                            go_wp2_with fail
                            go_ret
                            exact GivesBool.of HN.out X.out.1
                        · have HN : Hid (false = eq1 (.r [.i f0, .i f1, .l L2, .i f3, .r [.i f4_0, .i f4_1], .l L5, .l L6, .i f7, .i f8, .i f9, .i f10]) (.r [.i f0, .i f1, .l L2, .i f3, .r [.i f4_0, .i f4_1], .l L5, .l L6, .i f7, .i g8, .i g9, .i g10])) := Lib.hid (eq1_no (by simp [e8])).symm
                          have hb8 : (f8 == g8) = false := by simpa using e8
                          have hd8 : (f8 != g8) = true := by simpa using e8
                          obtain ⟨x0, x1, x2, x3, x4, x5, x6, x7, x8, x9, x10, x11⟩ := (X.out.box (g := w.heap.size) (cs := [.int .i64 f0, .int .i64 f1, .slice A2 n2 c2, .int .i64 f3, .int .i64 f4_0, .int .i64 f4_1, .slice A5 n5 c5, .slice A6 n6 c6, .int .i64 f7, .int .i64 f8, .int .i64 f9, .int .i64 f10]) (by repeat (first | exact List.mem_cons_self | refine List.mem_cons_of_mem _ ?_))).c12
                          obtain ⟨y0, y1, y2, y3, y4, y5, y6, y7, y8, y9, y10, y11⟩ := (X.out.box (g := w.heap.size + 1) (cs := [.int .i64 f0, .int .i64 f1, .slice B2 m2 k2, .int .i64 f3, .int .i64 f4_0, .int .i64 f4_1, .slice B5 m5 k5, .slice B6 n6 k6, .int .i64 f7, .int .i64 g8, .int .i64 g9, .int .i64 g10]) (by repeat (first | exact List.mem_cons_self | refine List.mem_cons_of_mem _ ?_))).c12
                          go_wp2_with fail
                          go_ret
                          exact GivesBool.of HN.out X.out.1
                      · have HN : Hid (false = eq1 (.r [.i f0, .i f1, .l L2, .i f3, .r [.i f4_0, .i f4_1], .l L5, .l L6, .i f7, .i f8, .i f9, .i f10]) (.r [.i f0, .i f1, .l L2, .i f3, .r [.i f4_0, .i f4_1], .l L5, .l L6, .i g7, .i g8, .i g9, .i g10])) := Lib.hid (eq1_no (by simp [e7])).symm
                        have hb7 : (f7 == g7) = false := by simpa using e7
                        have hd7 : (f7 != g7) = true := by simpa using e7
                        obtain ⟨x0, x1, x2, x3, x4, x5, x6, x7, x8, x9, x10, x11⟩ := (X.out.box (g := w.heap.size) (cs := [.int .i64 f0, .int .i64 f1, .slice A2 n2 c2, .int .i64 f3, .int .i64 f4_0, .int .i64 f4_1, .slice A5 n5 c5, .slice A6 n6 c6, .int .i64 f7, .int .i64 f8, .int .i64 f9, .int .i64 f10]) (by repeat (first | exact List.mem_cons_self | refine List.mem_cons_of_mem _ ?_))).c12
                        obtain ⟨y0, y1, y2, y3, y4, y5, y6, y7, y8, y9, y10, y11⟩ := (X.out.box (g := w.heap.size + 1) (cs := [.int .i64 f0, .int .i64 f1, .slice B2 m2 k2, .int .i64 f3, .int .i64 f4_0, .int .i64 f4_1, .slice B5 m5 k5, .slice B6 n6 k6, .int .i64 g7, .int .i64 g8, .int .i64 g9, .int .i64 g10]) (by repeat (first | exact List.mem_cons_self | refine List.mem_cons_of_mem _ ?_))).c12
                        go_wp2_with fail
                        go_ret
                        exact GivesBool.of HN.out X.out.1
                · have HN : Hid (false = eq1 (.r [.i f0, .i f1, .l L2, .i f3, .r [.i f4_0, .i f4_1], .l L5, .l L6, .i f7, .i f8, .i f9, .i f10]) (.r [.i f0, .i f1, .l L2, .i f3, .r [.i f4_0, .i f4_1], .l L5, .l M6, .i g7, .i g8, .i g9, .i g10])) := by
                    refine Lib.hid (eq1_no (fun x => e6 ?_)).symm
                    have e9 : L6 = M6 := by
                      simp at x
                      exact x.1
                    rw [← HC6.out, ← HC6'.out, e9]
                  have hb6 : ((n6 : Int) == (m6 : Int)) = false := by rw [beq_eq_false_iff_ne]; omega
                  have hd6 : ((n6 : Int) != (m6 : Int)) = true := by rw [bne_iff_ne]; omega
                  go_enter Try.func106, Try.ntmps106
                  go_wp2_with fail
                  refine (specEqVD (HL2.out.below X.out.1) (HR2.out.below X.out.1) HT2.out HU2.out hn2).mono ?_
                  rintro e w2 ⟨rfl, hb⟩
                  rw [eqD_yes]
                  replace X := Lib.hid (X.out.below hb)
                  clear hb
                  obtain ⟨x0, x1, x2, x3, x4, x5, x6, x7, x8, x9, x10, x11⟩ := (X.out.box (g := w.heap.size) (cs := [.int .i64 f0, .int .i64 f1, .slice A2 n2 c2, .int .i64 f3, .int .i64 f4_0, .int .i64 f4_1, .slice A5 n5 c5, .slice A6 n6 c6, .int .i64 f7, .int .i64 f8, .int .i64 f9, .int .i64 f10]) (by repeat (first | exact List.mem_cons_self | refine List.mem_cons_of_mem _ ?_))).c12
                  obtain ⟨y0, y1, y2, y3, y4, y5, y6, y7, y8, y9, y10, y11⟩ := (X.out.box (g := w.heap.size + 1) (cs := [.int .i64 f0, .int .i64 f1, .slice B2 m2 k2, .int .i64 f3, .int .i64 f4_0, .int .i64 f4_1, .slice B5 m5 k5, .slice B6 m6 k6, .int .i64 g7, .int .i64 g8, .int .i64 g9, .int .i64 g10]) (by repeat (first | exact List.mem_cons_self | refine List.mem_cons_of_mem _ ?_))).c12
                  go_wp2_with fail
                  refine (specEqSents _ _ A5 B5 n5 c5 m5 k5 _ (HL5.out.below X.out.1) (HR5.out.below X.out.1) HT5.out HU5.out hn5 hv5).mono ?_
                  rintro e w5 h9
                  obtain ⟨rfl, hb⟩ := QuietB.gives h9
                  clear h9
                  clear x0 y0 x1 y1 x2 y2 x3 y3 x4 y4 x5 y5 x6 y6 x7 y7 x8 y8 x9 y9 x10 y10 x11 y11
                  rw [eqD_yes]
                  replace X := Lib.hid (X.out.below hb)
                  clear hb
                  obtain ⟨x0, x1, x2, x3, x4, x5, x6, x7, x8, x9, x10, x11⟩ := (X.out.box (g := w.heap.size) (cs := [.int .i64 f0, .int .i64 f1, .slice A2 n2 c2, .int .i64 f3, .int .i64 f4_0, .int .i64 f4_1, .slice A5 n5 c5, .slice A6 n6 c6, .int .i64 f7, .int .i64 f8, .int .i64 f9, .int .i64 f10]) (by repeat (first | exact List.mem_cons_self | refine List.mem_cons_of_mem _ ?_))).c12
                  obtain ⟨y0, y1, y2, y3, y4, y5, y6, y7, y8, y9, y10, y11⟩ := (X.out.box (g := w.heap.size + 1) (cs := [.int .i64 f0, .int .i64 f1, .slice B2 m2 k2, .int .i64 f3, .int .i64 f4_0, .int .i64 f4_1, .slice B5 m5 k5, .slice B6 m6 k6, .int .i64 g7, .int .i64 g8, .int .i64 g9, .int .i64 g10]) (by repeat (first | exact List.mem_cons_self | refine List.mem_cons_of_mem _ ?_))).c12
                  go_wp2_with fail
                  go_ret
                  exact GivesBool.of HN.out X.out.1
              · have HN : Hid (false = eq1 (.r [.i f0, .i f1, .l L2, .i f3, .r [.i f4_0, .i f4_1], .l L5, .l L6, .i f7, .i f8, .i f9, .i f10]) (.r [.i f0, .i f1, .l L2, .i f3, .r [.i f4_0, .i f4_1], .l M5, .l M6, .i g7, .i g8, .i g9, .i g10])) := Lib.hid (eq1_no (by simp [e5])).symm
                have HE5 := Lib.hid (eqD_no e5)
                clear e5
                go_enter Try.func106, Try.ntmps106
                go_wp2_with fail
                refine (specEqVD (HL2.out.below X.out.1) (HR2.out.below X.out.1) HT2.out HU2.out hn2).mono ?_
                rintro e w2 ⟨rfl, hb⟩
                rw [eqD_yes]
                replace X := Lib.hid (X.out.below hb)
                clear hb
                obtain ⟨x0, x1, x2, x3, x4, x5, x6, x7, x8, x9, x10, x11⟩ := (X.out.box (g := w.heap.size) (cs := [.int .i64 f0, .int .i64 f1, .slice A2 n2 c2, .int .i64 f3, .int .i64 f4_0, .int .i64 f4_1, .slice A5 n5 c5, .slice A6 n6 c6, .int .i64 f7, .int .i64 f8, .int .i64 f9, .int .i64 f10]) (by repeat (first | exact List.mem_cons_self | refine List.mem_cons_of_mem _ ?_))).c12
                obtain ⟨y0, y1, y2, y3, y4, y5, y6, y7, y8, y9, y10, y11⟩ := (X.out.box (g := w.heap.size + 1) (cs := [.int .i64 f0, .int .i64 f1, .slice B2 m2 k2, .int .i64 f3, .int .i64 f4_0, .int .i64 f4_1, .slice B5 m5 k5, .slice B6 m6 k6, .int .i64 g7, .int .i64 g8, .int .i64 g9, .int .i64 g10]) (by repeat (first | exact List.mem_cons_self | refine List.mem_cons_of_mem _ ?_))).c12
                go_wp2_with fail
                refine (specEqSents _ _ A5 B5 n5 c5 m5 k5 _ (HL5.out.below X.out.1) (HR5.out.below X.out.1) HT5.out HU5.out hn5 hv5).mono ?_
                rintro e w5 h9
                obtain ⟨rfl, hb⟩ := QuietB.gives h9
                clear h9
                clear x0 y0 x1 y1 x2 y2 x3 y3 x4 y4 x5 y5 x6 y6 x7 y7 x8 y8 x9 y9 x10 y10 x11 y11
                rw [HE5.out]
                replace X := Lib.hid (X.out.below hb)
                clear hb
                obtain ⟨x0, x1, x2, x3, x4, x5, x6, x7, x8, x9, x10, x11⟩ := (X.out.box (g := w.heap.size) (cs := [.int .i64 f0, .int .i64 f1, .slice A2 n2 c2, .int .i64 f3, .int .i64 f4_0, .int .i64 f4_1, .slice A5 n5 c5, .slice A6 n6 c6, .int .i64 f7, .int .i64 f8, .int .i64 f9, .int .i64 f10]) (by repeat (first | exact List.mem_cons_self | refine List.mem_cons_of_mem _ ?_))).c12
                obtain ⟨y0, y1, y2, y3, y4, y5, y6, y7, y8, y9, y10, y11⟩ := (X.out.box (g := w.heap.size + 1) (cs := [.int .i64 f0, .int .i64 f1, .slice B2 m2 k2, .int .i64 f3, .int .i64 f4_0, .int .i64 f4_1, .slice B5 m5 k5, .slice B6 m6 k6, .int .i64 g7, .int .i64 g8, .int .i64 g9, .int .i64 g10]) (by repeat (first | exact List.mem_cons_self | refine List.mem_cons_of_mem _ ?_))).c12
                go_wp2_with fail
                go_ret
                exact GivesBool.of HN.out X.out.1
            · have HN : Hid (false = eq1 (.r [.i f0, .i f1, .l L2, .i f3, .r [.i f4_0, .i f4_1], .l L5, .l L6, .i f7, .i f8, .i f9, .i f10]) (.r [.i f0, .i f1, .l L2, .i f3, .r [.i f4_0, .i g4_1], .l M5, .l M6, .i g7, .i g8, .i g9, .i g10])) := Lib.hid (eq1_no (by simp [e4_1])).symm
              have hb4_1 : (f4_1 == g4_1) = false := by simpa using e4_1
              have hd4_1 : (f4_1 != g4_1) = true := by simpa using e4_1
              go_enter Try.func106, Try.ntmps106
              go_wp2_with fail
              refine (specEqVD (HL2.out.below X.out.1) (HR2.out.below X.out.1) HT2.out HU2.out hn2).mono ?_
              rintro e w2 ⟨rfl, hb⟩
              rw [eqD_yes]
              replace X := Lib.hid (X.out.below hb)
              clear hb
              obtain ⟨x0, x1, x2, x3, x4, x5, x6, x7, x8, x9, x10, x11⟩ := (X.out.box (g := w.heap.size) (cs := [.int .i64 f0, .int .i64 f1, .slice A2 n2 c2, .int .i64 f3, .int .i64 f4_0, .int .i64 f4_1, .slice A5 n5 c5, .slice A6 n6 c6, .int .i64 f7, .int .i64 f8, .int .i64 f9, .int .i64 f10]) (by repeat (first | exact List.mem_cons_self | refine List.mem_cons_of_mem _ ?_))).c12
              obtain ⟨y0, y1, y2, y3, y4, y5, y6, y7, y8, y9, y10, y11⟩ := (X.out.box (g := w.heap.size + 1) (cs := [.int .i64 f0, .int .i64 f1, .slice B2 m2 k2, .int .i64 f3, .int .i64 f4_0, .int .i64 g4_1, .slice B5 m5 k5, .slice B6 m6 k6, .int .i64 g7, .int .i64 g8, .int .i64 g9, .int .i64 g10]) (by repeat (first | exact List.mem_cons_self | refine List.mem_cons_of_mem _ ?_))).c12
              go_wp2_with fail
              go_ret
              exact GivesBool.of HN.out X.out.1
          · have HN : Hid (false = eq1 (.r [.i f0, .i f1, .l L2, .i f3, .r [.i f4_0, .i f4_1], .l L5, .l L6, .i f7, .i f8, .i f9, .i f10]) (.r [.i f0, .i f1, .l L2, .i f3, .r [.i g4_0, .i g4_1], .l M5, .l M6, .i g7, .i g8, .i g9, .i g10])) := Lib.hid (eq1_no (by simp [e4_0])).symm
            have hb4_0 : (f4_0 == g4_0) = false := by simpa using e4_0
            have hd4_0 : (f4_0 != g4_0) = true := by simpa using e4_0
            go_enter Try.func106, Try.ntmps106
            go_wp2_with fail
            refine (specEqVD (HL2.out.below X.out.1) (HR2.out.below X.out.1) HT2.out HU2.out hn2).mono ?_
            rintro e w2 ⟨rfl, hb⟩
            rw [eqD_yes]
            replace X := Lib.hid (X.out.below hb)
            clear hb
            obtain ⟨x0, x1, x2, x3, x4, x5, x6, x7, x8, x9, x10, x11⟩ := (X.out.box (g := w.heap.size) (cs := [.int .i64 f0, .int .i64 f1, .slice A2 n2 c2, .int .i64 f3, .int .i64 f4_0, .int .i64 f4_1, .slice A5 n5 c5, .slice A6 n6 c6, .int .i64 f7, .int .i64 f8, .int .i64 f9, .int .i64 f10]) (by repeat (first | exact List.mem_cons_self | refine List.mem_cons_of_mem _ ?_))).c12
            obtain ⟨y0, y1, y2, y3, y4, y5, y6, y7, y8, y9, y10, y11⟩ := (X.out.box (g := w.heap.size + 1) (cs := [.int .i64 f0, .int .i64 f1, .slice B2 m2 k2, .int .i64 f3, .int .i64 g4_0, .int .i64 g4_1, .slice B5 m5 k5, .slice B6 m6 k6, .int .i64 g7, .int .i64 g8, .int .i64 g9, .int .i64 g10]) (by repeat (first | exact List.mem_cons_self | refine List.mem_cons_of_mem _ ?_))).c12
            go_wp2_with fail
            go_ret
            exact GivesBool.of HN.out X.out.1
        · have HN : Hid (false = eq1 (.r [.i f0, .i f1, .l L2, .i f3, .r [.i f4_0, .i f4_1], .l L5, .l L6, .i f7, .i f8, .i f9, .i f10]) (.r [.i f0, .i f1, .l L2, .i g3, .r [.i g4_0, .i g4_1], .l M5, .l M6, .i g7, .i g8, .i g9, .i g10])) := Lib.hid (eq1_no (by simp [e3])).symm
          have hb3 : (f3 == g3) = false := by simpa using e3
          have hd3 : (f3 != g3) = true := by simpa using e3
          go_enter Try.func106, Try.ntmps106
          go_wp2_with fail
          refine (specEqVD (HL2.out.below X.out.1) (HR2.out.below X.out.1) HT2.out HU2.out hn2).mono ?_
          rintro e w2 ⟨rfl, hb⟩
          rw [eqD_yes]
          replace X := Lib.hid (X.out.below hb)
          clear hb
          obtain ⟨x0, x1, x2, x3, x4, x5, x6, x7, x8, x9, x10, x11⟩ := (X.out.box (g := w.heap.size) (cs := [.int .i64 f0, .int .i64 f1, .slice A2 n2 c2, .int .i64 f3, .int .i64 f4_0, .int .i64 f4_1, .slice A5 n5 c5, .slice A6 n6 c6, .int .i64 f7, .int .i64 f8, .int .i64 f9, .int .i64 f10]) (by repeat (first | exact List.mem_cons_self | refine List.mem_cons_of_mem _ ?_))).c12
          obtain ⟨y0, y1, y2, y3, y4, y5, y6, y7, y8, y9, y10, y11⟩ := (X.out.box (g := w.heap.size + 1) (cs := [.int .i64 f0, .int .i64 f1, .slice B2 m2 k2, .int .i64 g3, .int .i64 g4_0, .int .i64 g4_1, .slice B5 m5 k5, .slice B6 m6 k6, .int .i64 g7, .int .i64 g8, .int .i64 g9, .int .i64 g10]) (by repeat (first | exact List.mem_cons_self | refine List.mem_cons_of_mem _ ?_))).c12
          go_wp2_with fail
          go_ret
          exact GivesBool.of HN.out X.out.1
      · have HN : Hid (false = eq1 (.r [.i f0, .i f1, .l L2, .i f3, .r [.i f4_0, .i f4_1], .l L5, .l L6, .i f7, .i f8, .i f9, .i f10]) (.r [.i f0, .i f1, .l M2, .i g3, .r [.i g4_0, .i g4_1], .l M5, .l M6, .i g7, .i g8, .i g9, .i g10])) := Lib.hid (eq1_no (by simp [e2])).symm
        have HE2 := Lib.hid (eqD_no e2)
        clear e2
        go_enter Try.func106, Try.ntmps106
        go_wp2_with fail
        refine (specEqVD (HL2.out.below X.out.1) (HR2.out.below X.out.1) HT2.out HU2.out hn2).mono ?_
        rintro e w2 ⟨rfl, hb⟩
        rw [HE2.out]
        replace X := Lib.hid (X.out.below hb)
        clear hb
        obtain ⟨x0, x1, x2, x3, x4, x5, x6, x7, x8, x9, x10, x11⟩ := (X.out.box (g := w.heap.size) (cs := [.int .i64 f0, .int .i64 f1, .slice A2 n2 c2, .int .i64 f3, .int .i64 f4_0, .int .i64 f4_1, .slice A5 n5 c5, .slice A6 n6 c6, .int .i64 f7, .int .i64 f8, .int .i64 f9, .int .i64 f10]) (by repeat (first | exact List.mem_cons_self | refine List.mem_cons_of_mem _ ?_))).c12
        obtain ⟨y0, y1, y2, y3, y4, y5, y6, y7, y8, y9, y10, y11⟩ := (X.out.box (g := w.heap.size + 1) (cs := [.int .i64 f0, .int .i64 f1, .slice B2 m2 k2, .int .i64 g3, .int .i64 g4_0, .int .i64 g4_1, .slice B5 m5 k5, .slice B6 m6 k6, .int .i64 g7, .int .i64 g8, .int .i64 g9, .int .i64 g10]) (by repeat (first | exact List.mem_cons_self | refine List.mem_cons_of_mem _ ?_))).c12
        go_wp2_with fail
        go_ret
        exact GivesBool.of HN.out X.out.1
    · have HN : Hid (false = eq1 (.r [.i f0, .i f1, .l L2, .i f3, .r [.i f4_0, .i f4_1], .l L5, .l L6, .i f7, .i f8, .i f9, .i f10]) (.r [.i f0, .i g1, .l M2, .i g3, .r [.i g4_0, .i g4_1], .l M5, .l M6, .i g7, .i g8, .i g9, .i g10])) := Lib.hid (eq1_no (by simp [e1])).symm
      have hb1 : (f1 == g1) = false := by simpa using e1
      have hd1 : (f1 != g1) = true := by simpa using e1
      go_enter Try.func106, Try.ntmps106
      go_wp2_with fail
      go_ret
      exact GivesBool.of HN.out X.out.1
  · have HN : Hid (false = eq1 (.r [.i f0, .i f1, .l L2, .i f3, .r [.i f4_0, .i f4_1], .l L5, .l L6, .i f7, .i f8, .i f9, .i f10]) (.r [.i g0, .i g1, .l M2, .i g3, .r [.i g4_0, .i g4_1], .l M5, .l M6, .i g7, .i g8, .i g9, .i g10])) := Lib.hid (eq1_no (by simp [e0])).symm
    have hb0 : (f0 == g0) = false := by simpa using e0
    have hd0 : (f0 != g0) = true := by simpa using e0
    go_enter Try.func106, Try.ntmps106
    go_wp2_with fail
    go_ret
    exact GivesBool.of HN.out X.out.1
end Go.Proofs.Ytmeacgpebpfpbaa
