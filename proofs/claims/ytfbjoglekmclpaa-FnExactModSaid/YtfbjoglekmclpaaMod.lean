/- For all integers p and q (64 bits), laws.FnExactMod returns true: impl.Mod answers as the reference model's Mod. No condition. Each argument reads behind the call as it read before. -/
import Derived.Test.YtfbjoglekmclpaaRows
import Derived.WalkKit
import Derived.ProofKit
import Derived.LoopTactic
import Derived.OpenShut
namespace Go.Proofs.Ytfbjoglekmclpaa.fnExactMod
open Go.ChangeShapes Go.WideShapes Go.ChangeAt Go.RowKit
set_option linter.unusedVariables false      -- a walk need not use every 'w<i>' (that an integer argument fits its kind)

theorem own : ownKnob Try.prog.godebug = none := by kernel_rfl

/-- The remainder that both functions return. -/
def modV (p q : Int) : Int := if 1 ≤ q ∧ q ≤ 1000000000000 then p % q else 0
theorem ret_int {k : IntKind} {a b : Int} (h : a = b) : Ending.returned (.int k a) = .returned (.int k b) := by rw [h]
theorem modV_out {p q : Int} (h : ¬ (1 ≤ q ∧ q ≤ 1000000000000)) : modV p q = 0 := if_neg h
theorem modV_in {p q : Int} (h1 : 1 ≤ q) (h2 : q ≤ 1000000000000) : modV p q = p % q := if_pos ⟨h1, h2⟩
theorem tmod_neg_ne {p q : Int} (hp : p < 0) (hq : 1 ≤ q) (h : p.tmod q < 0) : p.tmod q + q = p % q := by
  have e := Int.tmod_eq_emod (a := p) (b := q)
  have l := Int.emod_nonneg p (by omega : q ≠ 0)
  have u := Int.emod_lt_of_pos p (by omega : 0 < q)
  split at e <;> omega
theorem tmod_neg_ge {p q : Int} (hp : p < 0) (hq : 1 ≤ q) (h : ¬ p.tmod q < 0) : p.tmod q = p % q := by
  have e := Int.tmod_eq_emod (a := p) (b := q)
  have l := Int.emod_nonneg p (by omega : q ≠ 0)
  have u := Int.emod_lt_of_pos p (by omega : 0 < q)
  split at e <;> omega
theorem tmod_mod {p q : Int} (hq : 1 ≤ q) : p.tmod q % q = p % q := by
  have e := Int.tmod_eq_emod (a := p) (b := q)
  rw [e]
  split
  · simp
  · have h : p % q - ↑q.natAbs = p % q + q * (-1) := by omega
    rw [h, Int.add_mul_emod_self_left]; simp
set_option maxHeartbeats 400000 in
theorem specMod (p q : Int) (w : World) : Calls Try.prog 14 #[.int .i64 p, .int .i64 q] w fun e w' => e = .returned (.int .i64 (modV p q)) ∧ w = w' := by
  by_cases h1 : 1 ≤ q
  · by_cases h2 : q ≤ 1000000000000
    · have hb1 := Int.lt_tmod_of_pos p (by omega : 0 < q)
      have hb2 := Int.tmod_lt_of_pos p (by omega : 0 < q)
      by_cases hp : 0 ≤ p
      · have hb3 := Int.emod_nonneg p (by omega : q ≠ 0)
        have hb4 := Int.emod_lt_of_pos p (by omega : 0 < q)
        go_enter Try.func14, Try.ntmps14
        go_wp2
        go_ret
        exact ⟨ret_int (by rw [modV_in h1 h2]; simp), rfl⟩
      · have hp' : p < 0 := by omega
        go_enter Try.func14, Try.ntmps14
        go_wp2
        go_ret
        exact ⟨ret_int (by rw [modV_in h1 h2]; exact tmod_mod h1), rfl⟩
    · go_enter Try.func14, Try.ntmps14
      go_wp2
      go_ret
      exact ⟨ret_int (by rw [modV_out (by omega)]), rfl⟩
  · go_enter Try.func14, Try.ntmps14
    go_wp2
    go_ret
    exact ⟨ret_int (by rw [modV_out (by omega)]), rfl⟩
set_option maxHeartbeats 400000 in
theorem implMod (p q : Int) (w : World) : Calls Try.prog 15 #[.int .i64 p, .int .i64 q] w fun e w' => e = .returned (.int .i64 (modV p q)) ∧ w = w' := by
  by_cases h1 : 1 ≤ q
  · by_cases h2 : q ≤ 1000000000000
    · have hb1 := Int.lt_tmod_of_pos p (by omega : 0 < q)
      have hb2 := Int.tmod_lt_of_pos p (by omega : 0 < q)
      by_cases hp : 0 ≤ p
      · have hb3 := Int.emod_nonneg p (by omega : q ≠ 0)
        have hb4 := Int.emod_lt_of_pos p (by omega : 0 < q)
        go_enter Try.func15, Try.ntmps15
        go_wp2
        go_ret
        exact ⟨ret_int (by rw [modV_in h1 h2]), rfl⟩
      · have hp' : p < 0 := by omega
        by_cases ht : p.tmod q < 0
        · go_enter Try.func15, Try.ntmps15
          go_wp2
          go_ret
          exact ⟨ret_int (by rw [modV_in h1 h2]; exact tmod_neg_ne hp' h1 ht), rfl⟩
        · go_enter Try.func15, Try.ntmps15
          go_wp2
          go_ret
          exact ⟨ret_int (by rw [modV_in h1 h2]; exact tmod_neg_ge hp' h1 (by omega)), rfl⟩
    · go_enter Try.func15, Try.ntmps15
      go_wp2
      go_ret
      exact ⟨ret_int (by rw [modV_out (by omega)]), rfl⟩
  · go_enter Try.func15, Try.ntmps15
    go_wp2
    go_ret
    exact ⟨ret_int (by rw [modV_out (by omega)]), rfl⟩

/-! ### STEP 1: THE WALK: the Go text returns true. 'Grown w w'': the world has at most new blocks (Derived/RowKit3.lean). Part the cases AHEAD of 'go_enter' where a test parts the walk; take each callee by a contract of your own. -/
theorem walk (a0 : Int) (a1 : Int) (w0 : (Lit.int .i64 a0).wf = true) (w1 : (Lit.int .i64 a1).wf = true) (w : World) :
    Calls Try.prog 6 #[.int .i64 a0, .int .i64 a1] w fun e w' => e = .returned (.bool true) ∧ Grown w w' := by
  go_enter Try.func6, Try.ntmps6
  go_wp2_with (first | (go_at_call 14; refine (specMod _ _ _).mono ?_; rintro e w' ⟨rfl, rfl⟩) | (go_at_call 15; refine (implMod _ _ _).mono ?_; rintro e w' ⟨rfl, rfl⟩))
  go_ret
  exact ⟨rfl, by repeat (first | exact Grown.refl _ | apply Grown.drew | apply Grown.alloc)⟩

/-! ### THE ROW's STEP: WRITTEN OUT: LEAVE IT -/
set_option maxRecDepth 100000 in
theorem lifted (os : Os) (started : os.Started) (H : Type) (enc : TypeId × Value → H) :
    ReturnsInHanded {} Try.checked os 6 .any (Rows.fnExactModSpec.pre6 enc Try.prog Try.f6 Rows.fnExactModRow.domain false) (Rows.fnExactModSpec.post enc Try.prog Try.f6 false true false false) := by
  refine returnsInHanded_of_change (C := Try.checked) own started (by kernel_rfl) Try.func6
    (ChangeSpec.witness6 (enc := enc) (C := Try.checked) false ⟨#[], #[.int .i64 0, .int .i64 0], []⟩ 8 (by kernel_rfl) (by kernel_rfl) (by kernel_rfl) (by kernel_rfl)) ?_
  intro W base args ds gs before hval0 hW hcnd _
  have hval : ∀ (j : Nat) t v, Try.f6.params[j]? = some t → args[j]? = some v → Value.okWide Try.prog W .any base t v := hval0
  have hW' := hW
  obtain ⟨p, q, hA0, hV, rfl, hfz, hnd⟩ := hW
  have hA : DataW.TrodAll enc Try.prog W 0 (fun _ => true) true Try.f6.params.toList args.toList ds p := hA0
  rw [Try.params6] at hA hval
  obtain ⟨v0, vs0, d0, ds0, p0, q0, hargs, rfl, rfl, h0, r0⟩ := trodAll_cons hA
  obtain ⟨v1, vs1, d1, ds1, p1, q1, rfl, rfl, rfl, h1, r1⟩ := trodAll_cons r0
  obtain ⟨rfl, rfl, rfl⟩ := trodAll_nil r1
  obtain rfl : args = #[v0, v1] := by cases args; simp_all
  obtain ⟨rfl, rfl⟩ := trodVars_none hV
  obtain ⟨a0, rfl, rfl, rfl, w0⟩ := open_int Try.underlying3 (hval 0 3 v0 rfl rfl) h0
  obtain ⟨a1, rfl, rfl, rfl, w1⟩ := open_int Try.underlying3 (hval 1 3 v1 rfl rfl) h1
  clear hA0 hval0
  simp only [List.append_nil] at hW'
  refine (walk a0 a1 w0 w1 W).mono fun e W' ⟨he, hg⟩ => ?_
  subst he
  exact ⟨_, rfl, post_of_same (pa := []) (pv := []) hW' (fun _ _ _ => (trodAll_cons_mk (shut_bool Try.underlying4 _) trodAll_mk0)) (fun sp _ => (trodAll_cons_mk (shut_int Try.underlying3 w0) (trodAll_cons_mk (shut_int Try.underlying3 w1) trodAll_mk0))) (fun _ _ => rfl) rfl
    (hg.frame _) hg.2.1 (ok_one (by kernel_rfl) rfl (okWide_bool_mk Try.underlying4 _))⟩

theorem over : Rows.fnExactModRow.holds Try.pinned (OpenSpec.ofChange Rows.fnExactModSpec) :=
  OpenClaim.holds_of_wide 6 Try.f6 rfl rfl rfl rfl rfl rfl rfl ⟨rfl, rfl, rfl, rfl, rfl⟩ rfl rfl rfl rfl rfl (by kernel_rfl) Try.func6 (by kernel_rfl)
    (of_decide_eq_true (by kernel_rfl)) (by unfold Func.isWrapper; first | (rw [if_pos (by decide +kernel)]; kernel_rfl) | (rw [if_neg (by decide +kernel)]; exact ⟨rfl, rfl⟩))
    (fun os started H enc _ => lifted os started H enc)

/-- ████ THE STATEMENT ████ -/
theorem proved : Rows.FnExactModSaid :=
  over
#print axioms proved
end Go.Proofs.Ytfbjoglekmclpaa.fnExactMod
