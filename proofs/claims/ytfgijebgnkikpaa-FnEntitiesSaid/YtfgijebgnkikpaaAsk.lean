/- Type assertions to the types behind the interface. -/
import Derived.Test.YtfgijebgnkikpaaImplV
import Derived.Stop.Asserts
namespace Go.Proofs.Ytfgijebgnkikpaa
open Go.RowKit
theorem ask_num (v : Value) (w : World) : (Instr.typeAssert (.iface 90 v) 152 90 true).run Try.prog w = .ok (.tuple #[v, .bool true]) w := by
  simp [Instr.typeAssert, run_underlying Try.underlying90]
theorem zero_num : (Try.prog.info? 90).map (·.zero) = some (some (.int .i64 0)) := by kernel_rfl
theorem zero_ref : (Try.prog.info? 154).map (·.zero) = some (some (.int .i64 0)) := by kernel_rfl
theorem zero_bro : (Try.prog.info? 156).map (·.zero) = some (some (.agg #[])) := by kernel_rfl
theorem ask_num_no (T : Nat) (h : T ≠ 90) (v : Value) (w : World) : (Instr.typeAssert (.iface T v) 152 90 true).run Try.prog w = .ok (.tuple #[.int .i64 0, .bool false]) w := by
  obtain ⟨j, hj, hz⟩ := Option.map_eq_some_iff.1 zero_num
  simp [Instr.typeAssert, run_underlying Try.underlying90, h, zeroValue, typeInfo, hj, hz]
theorem ask_ref (v : Value) (w : World) : (Instr.typeAssert (.iface 154 v) 152 154 true).run Try.prog w = .ok (.tuple #[v, .bool true]) w := by
  simp [Instr.typeAssert, run_underlying Try.underlying154]
theorem ask_ref_no (T : Nat) (h : T ≠ 154) (v : Value) (w : World) : (Instr.typeAssert (.iface T v) 152 154 true).run Try.prog w = .ok (.tuple #[.int .i64 0, .bool false]) w := by
  obtain ⟨j, hj, hz⟩ := Option.map_eq_some_iff.1 zero_ref
  simp [Instr.typeAssert, run_underlying Try.underlying154, h, zeroValue, typeInfo, hj, hz]
theorem ask_bro (v : Value) (w : World) : (Instr.typeAssert (.iface 156 v) 152 156 true).run Try.prog w = .ok (.tuple #[v, .bool true]) w := by
  simp [Instr.typeAssert, run_underlying Try.underlying156]
theorem ask_bro_no (T : Nat) (h : T ≠ 156) (v : Value) (w : World) : (Instr.typeAssert (.iface T v) 152 156 true).run Try.prog w = .ok (.tuple #[.agg #[], .bool false]) w := by
  obtain ⟨j, hj, hz⟩ := Option.map_eq_some_iff.1 zero_bro
  simp [Instr.typeAssert, run_underlying Try.underlying156, h, zeroValue, typeInfo, hj, hz]
end Go.Proofs.Ytfgijebgnkikpaa
