/- Instructions that are equal or part at one field. -/
import Derived.Test.YtaepconmjmcbdaaScrW
import Derived.Test.YtaepconmjmcbdaaProg
import Derived.Deep.QuietTactic
import Derived.BigQuiet
import Derived.WalkKit
namespace Go.Proofs.Ytaepconmjmcbdaa
open Go.RowKit
theorem ins_part (f0 f1 f2 f3 f4 g0 g1 g2 g3 g4 : Int) (f5 g5 : ByteArray) : (f0 = g0 ∧ f1 = g1 ∧ f2 = g2 ∧ f3 = g3 ∧ f4 = g4 ∧ f5 = g5) ∨ ((¬ f0 = g0) ∨ (f0 = g0 ∧ ¬ f1 = g1) ∨ (f0 = g0 ∧ f1 = g1 ∧ ¬ f2 = g2) ∨ (f0 = g0 ∧ f1 = g1 ∧ f2 = g2 ∧ ¬ f3 = g3) ∨ (f0 = g0 ∧ f1 = g1 ∧ f2 = g2 ∧ f3 = g3 ∧ ¬ f4 = g4) ∨ (f0 = g0 ∧ f1 = g1 ∧ f2 = g2 ∧ f3 = g3 ∧ f4 = g4 ∧ ¬ f5 = g5)) := by
  by_cases e0 : f0 = g0
  · by_cases e1 : f1 = g1
    · by_cases e2 : f2 = g2
      · by_cases e3 : f3 = g3
        · by_cases e4 : f4 = g4
          · by_cases e5 : f5 = g5
            · exact Or.inl ⟨e0, e1, e2, e3, e4, e5⟩
            · exact Or.inr (Or.inr (Or.inr (Or.inr (Or.inr (Or.inr ⟨e0, e1, e2, e3, e4, e5⟩)))))
          · exact Or.inr (Or.inr (Or.inr (Or.inr (Or.inr (Or.inl ⟨e0, e1, e2, e3, e4⟩)))))
        · exact Or.inr (Or.inr (Or.inr (Or.inr (Or.inl ⟨e0, e1, e2, e3⟩))))
      · exact Or.inr (Or.inr (Or.inr (Or.inl ⟨e0, e1, e2⟩)))
    · exact Or.inr (Or.inr (Or.inl ⟨e0, e1⟩))
  · exact Or.inr (Or.inl e0)
theorem ins_no {d d' : Dat} {f0 f1 f2 f3 f4 g0 g1 g2 g3 g4 : Int} {f5 g5 : ByteArray} (hd : d = .r [.i f0, .i f1, .i f2, .i f3, .i f4, .s f5]) (hd' : d' = .r [.i g0, .i g1, .i g2, .i g3, .i g4, .s g5]) (h : (¬ f0 = g0) ∨ (f0 = g0 ∧ ¬ f1 = g1) ∨ (f0 = g0 ∧ f1 = g1 ∧ ¬ f2 = g2) ∨ (f0 = g0 ∧ f1 = g1 ∧ f2 = g2 ∧ ¬ f3 = g3) ∨ (f0 = g0 ∧ f1 = g1 ∧ f2 = g2 ∧ f3 = g3 ∧ ¬ f4 = g4) ∨ (f0 = g0 ∧ f1 = g1 ∧ f2 = g2 ∧ f3 = g3 ∧ f4 = g4 ∧ ¬ f5 = g5)) : eqInsD d d' = false := by
  subst hd hd'
  show eqIns ⟨f0, f1, f2, f3, f4, f5⟩ ⟨g0, g1, g2, g3, g4, g5⟩ = false
  unfold eqIns
  rcases h with h | ⟨-, h⟩ | ⟨-, -, h⟩ | ⟨-, -, -, h⟩ | ⟨-, -, -, -, h⟩ | ⟨-, -, -, -, -, h⟩ <;> simp [h]
theorem ins_yes {d d' : Dat} {f0 f1 f2 f3 f4 : Int} {f5 : ByteArray} (hd : d = .r [.i f0, .i f1, .i f2, .i f3, .i f4, .s f5]) (hd' : d' = .r [.i f0, .i f1, .i f2, .i f3, .i f4, .s f5]) : eqInsD d d' = true := by
  subst hd hd'
  exact eqIns_refl _

theorem run_neq_ins (f0 f1 f2 f3 f4 g0 g1 g2 g3 g4 : Int) (f5 g5 : ByteArray) (w : World) :
    (binOp .neq 81 (.agg #[.int .i64 f0, .int .i64 f1, .int .i64 f2, .int .i64 f3, .int .i64 f4, .string f5]) (.agg #[.int .i64 g0, .int .i64 g1, .int .i64 g2, .int .i64 g3, .int .i64 g4, .string g5])).run Try.prog w = .ok (.bool (!eqIns ⟨f0, f1, f2, f3, f4, f5⟩ ⟨g0, g1, g2, g3, g4, g5⟩)) w := by
  rcases ins_part f0 f1 f2 f3 f4 g0 g1 g2 g3 g4 f5 g5 with ⟨rfl, rfl, rfl, rfl, rfl, rfl⟩ | hp
  · rw [eqIns_refl]
    simp [go_sem]
  · have hE : eqIns ⟨f0, f1, f2, f3, f4, f5⟩ ⟨g0, g1, g2, g3, g4, g5⟩ = false := ins_no rfl rfl hp
    rw [hE]
    rcases hp with h | ⟨rfl, h⟩ | ⟨rfl, rfl, h⟩ | ⟨rfl, rfl, rfl, h⟩ | ⟨rfl, rfl, rfl, rfl, h⟩ | ⟨rfl, rfl, rfl, rfl, rfl, h⟩
    · have b1 : (f0 == g0) = false := by simpa using h
      simp [go_sem, b1]
    · have b1 : (f1 == g1) = false := by simpa using h
      simp [go_sem, b1]
    · have b1 : (f2 == g2) = false := by simpa using h
      simp [go_sem, b1]
    · have b1 : (f3 == g3) = false := by simpa using h
      simp [go_sem, b1]
    · have b1 : (f4 == g4) = false := by simpa using h
      simp [go_sem, b1]
    · have b2 := bytes_neb h
      simp [go_sem, b2]
/-- '!=' on two instructions, at a step of a region that only reads. -/
theorem quiet_neq_ins {P : Program} (hP : P = Try.prog) {o : Oper} {a : Act} {C : World → Prop} {K : Act → Prop} (T : TypeId) (x y : Operand) (h : o.op = .binOp .neq 81 x y T) {f0 f1 f2 f3 f4 g0 g1 g2 g3 g4 : Int} {f5 g5 : ByteArray}
    (hx : a.eval x = .agg #[.int .i64 f0, .int .i64 f1, .int .i64 f2, .int .i64 f3, .int .i64 f4, .string f5]) (hy : a.eval y = .agg #[.int .i64 g0, .int .i64 g1, .int .i64 g2, .int .i64 g3, .int .i64 g4, .string g5]) (v : Bool) (hv : eqIns ⟨f0, f1, f2, f3, f4, f5⟩ ⟨g0, g1, g2, g3, g4, g5⟩ = v)
    (hk : K (a.put o.dst (.bool (!v)))) : o.quiet P a C K := by
  subst hP hv
  refine ⟨_, fun w _ => ?_, hk⟩
  unfold Oper.quietAt
  have e : (execOp a.eval o).run Try.prog w = .ok (.value (.bool (!eqIns ⟨f0, f1, f2, f3, f4, f5⟩ ⟨g0, g1, g2, g3, g4, g5⟩))) w := by
    have hr := run_neq_ins f0 f1 f2 f3 f4 g0 g1 g2 g3 g4 f5 g5 w
    have hg : Try.prog.eqGuardType Try.prog.depth 81 = false := by kernel_rfl
    unfold execOp
    rw [h]
    simp only [hx, hy]
    simp [eqGuard, hg, hr, Result.andThen]
  rw [e]
  exact ⟨rfl, rfl⟩
end Go.Proofs.Ytaepconmjmcbdaa
