/- Type assertions to the types behind the interface. -/
import Derived.Test.YtiojckpopgpacaaImplV
import Derived.Stop.Asserts
namespace Go.Proofs.Ytiojckpopgpacaa
open Go.RowKit
theorem ask_num (v : Value) (w : World) : (Instr.typeAssert (.iface 60 v) 56 60 true).run Try.prog w = .ok (.tuple #[v, .bool true]) w := by
  simp [Instr.typeAssert, run_underlying Try.underlying60]
theorem zero_num : (Try.prog.info? 60).map (·.zero) = some (some (.int .i64 0)) := by kernel_rfl
theorem zero_ref : (Try.prog.info? 61).map (·.zero) = some (some (.int .i64 0)) := by kernel_rfl
theorem zero_bro : (Try.prog.info? 63).map (·.zero) = some (some (.agg #[])) := by kernel_rfl
theorem ask_num_no (T : Nat) (h : T ≠ 60) (v : Value) (w : World) : (Instr.typeAssert (.iface T v) 56 60 true).run Try.prog w = .ok (.tuple #[.int .i64 0, .bool false]) w := by
  obtain ⟨j, hj, hz⟩ := Option.map_eq_some_iff.1 zero_num
  simp [Instr.typeAssert, run_underlying Try.underlying60, h, zeroValue, typeInfo, hj, hz]
theorem ask_ref (v : Value) (w : World) : (Instr.typeAssert (.iface 61 v) 56 61 true).run Try.prog w = .ok (.tuple #[v, .bool true]) w := by
  simp [Instr.typeAssert, run_underlying Try.underlying61]
theorem ask_ref_no (T : Nat) (h : T ≠ 61) (v : Value) (w : World) : (Instr.typeAssert (.iface T v) 56 61 true).run Try.prog w = .ok (.tuple #[.int .i64 0, .bool false]) w := by
  obtain ⟨j, hj, hz⟩ := Option.map_eq_some_iff.1 zero_ref
  simp [Instr.typeAssert, run_underlying Try.underlying61, h, zeroValue, typeInfo, hj, hz]
theorem ask_bro (v : Value) (w : World) : (Instr.typeAssert (.iface 63 v) 56 63 true).run Try.prog w = .ok (.tuple #[v, .bool true]) w := by
  simp [Instr.typeAssert, run_underlying Try.underlying63]
theorem ask_bro_no (T : Nat) (h : T ≠ 63) (v : Value) (w : World) : (Instr.typeAssert (.iface T v) 56 63 true).run Try.prog w = .ok (.tuple #[.agg #[], .bool false]) w := by
  obtain ⟨j, hj, hz⟩ := Option.map_eq_some_iff.1 zero_bro
  simp [Instr.typeAssert, run_underlying Try.underlying63, h, zeroValue, typeInfo, hj, hz]
end Go.Proofs.Ytiojckpopgpacaa
