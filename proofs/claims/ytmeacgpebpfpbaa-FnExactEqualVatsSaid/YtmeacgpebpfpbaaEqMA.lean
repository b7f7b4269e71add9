/- Chapter 11: slices.Equal over wires; '!=' on wires and tags. -/
import Derived.Test.YtmeacgpebpfpbaaMsgV
import Derived.LoopTactic
import Derived.Lib.Hide
import Derived.Deep.QuietTactic
import Derived.BigQuiet
import Derived.Deep.RegionWith
import Derived.Handy
namespace Go.Proofs.Ytmeacgpebpfpbaa
open Go.RowKit
set_option linter.unusedVariables false
set_option linter.unusedSimpArgs false
theorem run_neq_m3 (p0 p1 p2 q0 q1 q2 : Int) (w : World) :
    (binOp .neq 110 (.agg #[.int .i64 p0, .int .i64 p1, .int .i64 p2]) (.agg #[.int .i64 q0, .int .i64 q1, .int .i64 q2])).run Try.prog w = .ok (.bool (!(p0 == q0 && p1 == q1 && p2 == q2))) w := by
  by_cases h0 : p0 = q0
  · subst h0
    by_cases h1 : p1 = q1
    · subst h1
      by_cases h2 : p2 = q2
      · subst h2
        simp [go_sem]
      · have b1 : (p2 == q2) = false := by simpa using h2
        simp [go_sem, b1]
    · have b1 : (p1 == q1) = false := by simpa using h1
      simp [go_sem, b1]
  · have b1 : (p0 == q0) = false := by simpa using h0
    simp [go_sem, b1]
/-- '!=' on two tags, at a step of a region that only reads. -/
theorem quiet_neq_m3 {P : Program} (hP : P = Try.prog) {o : Oper} {a : Act} {C : World → Prop} {K : Act → Prop} (T : TypeId) (x y : Operand) (h : o.op = .binOp .neq 110 x y T) {p0 p1 p2 q0 q1 q2 : Int}
    (hx : a.eval x = .agg #[.int .i64 p0, .int .i64 p1, .int .i64 p2]) (hy : a.eval y = .agg #[.int .i64 q0, .int .i64 q1, .int .i64 q2]) (v : Bool) (hv : (p0 == q0 && p1 == q1 && p2 == q2) = v)
    (hk : K (a.put o.dst (.bool (!v)))) : o.quiet P a C K := by
  subst hP hv
  refine ⟨_, fun w _ => ?_, hk⟩
  unfold Oper.quietAt
  have e : (execOp a.eval o).run Try.prog w = .ok (.value (.bool (!(p0 == q0 && p1 == q1 && p2 == q2)))) w := by
    have hr := run_neq_m3 p0 p1 p2 q0 q1 q2 w
    have hg : Try.prog.eqGuardType Try.prog.depth 110 = false := by kernel_rfl
    unfold execOp
    rw [h]
    simp only [hx, hy]
    simp [eqGuard, hg, hr, Result.andThen]
  rw [e]
  exact ⟨rfl, rfl⟩
theorem run_neq_m2 (p0 p1 q0 q1 : Int) (w : World) :
    (binOp .neq 108 (.agg #[.int .i64 p0, .int .i64 p1]) (.agg #[.int .i64 q0, .int .i64 q1])).run Try.prog w = .ok (.bool (!(p0 == q0 && p1 == q1))) w := by
  by_cases h0 : p0 = q0
  · subst h0
    by_cases h1 : p1 = q1
    · subst h1
      simp [go_sem]
    · have b1 : (p1 == q1) = false := by simpa using h1
      simp [go_sem, b1]
  · have b1 : (p0 == q0) = false := by simpa using h0
    simp [go_sem, b1]
/-- '!=' on two wires, at a step of a region that only reads. -/
theorem quiet_neq_m2 {P : Program} (hP : P = Try.prog) {o : Oper} {a : Act} {C : World → Prop} {K : Act → Prop} (T : TypeId) (x y : Operand) (h : o.op = .binOp .neq 108 x y T) {p0 p1 q0 q1 : Int}
    (hx : a.eval x = .agg #[.int .i64 p0, .int .i64 p1]) (hy : a.eval y = .agg #[.int .i64 q0, .int .i64 q1]) (v : Bool) (hv : (p0 == q0 && p1 == q1) = v)
    (hk : K (a.put o.dst (.bool (!v)))) : o.quiet P a C K := by
  subst hP hv
  refine ⟨_, fun w _ => ?_, hk⟩
  unfold Oper.quietAt
  have e : (execOp a.eval o).run Try.prog w = .ok (.value (.bool (!(p0 == q0 && p1 == q1)))) w := by
    have hr := run_neq_m2 p0 p1 q0 q1 w
    have hg : Try.prog.eqGuardType Try.prog.depth 108 = false := by kernel_rfl
    unfold execOp
    rw [h]
    simp only [hx, hy]
    simp [eqGuard, hg, hr, Result.andThen]
  rw [e]
  exact ⟨rfl, rfl⟩
set_option maxRecDepth 100000 in
set_option maxHeartbeats 2000000 in
theorem slEqW (L M : List Dat) (A A' : Option Addr) (n n' c c' : Nat) (w : World) (h : Lies w (.l L) [.slice A n c]) (h' : Lies w (.l M) [.slice A' n' c']) (ht : ∀ x ∈ L, Has tyWire x) (ht' : ∀ x ∈ M, Has tyWire x) (hn : n ≤ 1099511627776) :
    Calls Try.prog 164 #[.slice A n c, .slice A' n' c'] w (GivesBool (eqD L M) w) := by
  by_cases hl : n = n'
  · subst hl
    have H := Lib.hid h
    have H' := Lib.hid h'
    have HT := Lib.hid ht
    have HT' := Lib.hid ht'
    clear h h' ht ht'
    go_enter Try.func164, Try.ntmps164
    go_wp2
    go_loopw [13] (fun iv wr => ∃ i : Nat, i ≤ n ∧ iv = .int .i64 i ∧ L.take i = M.take i ∧ Below w.heap.size w wr) (fun iv _ => n - (intOf iv).toNat)
    case atStart => exact ⟨0, Nat.zero_le _, rfl, rfl, Below.refl _ _⟩
    case round =>
      obtain ⟨i, hin, rfl, hs, hb⟩ := hrel
      by_cases hlt : i < n
      · obtain ⟨b, off, d, xs, rfl, hbw, hzi, hlie, hlen, hcell⟩ := (H.out.below hb).elem (fun x hx => (HT.out x hx).width) hlt
        obtain ⟨b', off', d', xs', rfl, hbw', hzi', hlie', hlen', hcell'⟩ := (H'.out.below hb).elem (fun x hx => (HT'.out x hx).width) hlt
        obtain ⟨p0, p1, hd, rfl⟩ := invWire (HT.out d (List.mem_of_getElem? hzi)) hlie
        obtain ⟨q0, q1, hd', rfl⟩ := invWire (HT'.out d' (List.mem_of_getElem? hzi')) hlie'
        have p0' : wr.cell? ⟨b, off + i * 2, none⟩ = some (.int .i64 p0) := hcell 0 _ rfl
        have p1' : wr.cell? ⟨b, off + i * 2 + 1, none⟩ = some (.int .i64 p1) := hcell 1 _ rfl
        have q0' : wr.cell? ⟨b', off' + i * 2, none⟩ = some (.int .i64 q0) := hcell' 0 _ rfl
        have q1' : wr.cell? ⟨b', off' + i * 2 + 1, none⟩ = some (.int .i64 q1) := hcell' 1 _ rfl
        have HB := Lib.hid hb
        have HS := Lib.hid hs
        have HZ : Hid (L[i]? = some (.r [.i p0, .i p1])) := Lib.hid (by rw [← hd]; exact hzi)
        have HZ' : Hid (M[i]? = some (.r [.i q0, .i q1])) := Lib.hid (by rw [← hd']; exact hzi')
        clear hzi hzi' hb hs hcell hcell' hlie hlie' hd hd'
        obtain ⟨v, hv⟩ : ∃ v, (p0 == q0 && p1 == q1) = v := ⟨_, rfl⟩
        have HV := Lib.hid hv
        clear hv
        go_wp2
        refine wp_region_quiet_lit (by kernel_rfl) (by kernel_rfl) ?_
        repeat (first
          | (refine BigFrame.wpQuiet_want (by rfl) (fun K hK => ?_); refine quiet_neq_m2 rfl _ _ _ rfl rfl rfl v HV.out ?_; refine hK _ ?_; clear hK K)
          | go_big_quiet_step (fail)
          | quiet_step (fail))
        refine wpQuiet_nil ?_
        intro _ hw'
        obtain ⟨nq, hw''⟩ := hw'
        subst hw''
        cases v with
        | true =>
          have HN : Hid (L.take (i + 1) = M.take (i + 1)) := Lib.hid (by
            have e8 := HV.out
            simp only [Bool.and_eq_true, beq_iff_eq] at e8
            obtain ⟨rfl, rfl⟩ := e8
            exact take_nextD HS.out HZ.out HZ'.out)
          go_wp2
          go_roundw
          case rel => exact ⟨i + 1, by omega, by go_num, HN.out, below_drewN HB.out _⟩
          case measure => (simp [intOf]; try omega)
        | false =>
          have HE : Hid (false = eqD L M) := Lib.hid (eqD_at HZ.out HZ'.out (fun e => by
            have e6 := HV.out
            simp only [Dat.r.injEq, List.cons.injEq, Dat.i.injEq, and_true] at e
            obtain ⟨rfl, rfl⟩ := e
            simp at e6)).symm
          go_wp2
          go_ret
          exact GivesBool.of HE.out (below_drewN HB.out _)
      · obtain rfl : i = n := by omega
        have HB := Lib.hid hb
        have HS := Lib.hid hs
        clear hb hs
        go_wp2
        go_ret
        exact GivesBool.of (eqD_all H.out.count H'.out.count HS.out).symm HB.out
  · have HL := Lib.hid (eqD_len h.count h'.count hl).symm
    clear h h'
    have hl' : ¬ (n : Int) = (n' : Int) := by omega
    go_enter Try.func164, Try.ntmps164
    go_wp2
    go_ret
    exact GivesBool.of HL.out (Below.refl _ _)
end Go.Proofs.Ytmeacgpebpfpbaa
