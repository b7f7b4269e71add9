/- The exact laws of IsName, IsReg, OpName, TargetOf, IsInstr. -/
import Derived.Test.YthgcodbcafpmhaaDoorInsL
import Derived.Test.YthgcodbcafpmhaaDoorSpecIs
namespace Go.Proofs.YthgcodbcafpmhaaDoor
open Go.RowKit
set_option linter.unusedVariables false
theorem leftI_big {nm : ByteArray} (h : ¬ nm.size ≤ 1048576) : leftI nm 1048576 = -1 := if_pos (by omega)
theorem leftI_fits {nm : ByteArray} (h : nm.size ≤ 1048576) : leftI nm 1048576 = 1048576 - nm.size := if_neg (by omega)
/-- The argument's box. -/
def BoxX (W : World) (x : I) (w : World) : Prop := Box W.heap.size [.int .i64 x.op, .int .i64 x.a, .int .i64 x.b, .int .i64 x.c, .int .i64 x.d, .string x.name] w ∧ Below W.heap.size W w
theorem BoxX.mk_ (W : World) (x : I) (T : TypeId) : BoxX W x (W.alloc (.cells #[.int .i64 x.op, .int .i64 x.a, .int .i64 x.b, .int .i64 x.c, .int .i64 x.d, .string x.name] T)) := ⟨Box.new W #[.int .i64 x.op, .int .i64 x.a, .int .i64 x.b, .int .i64 x.c, .int .i64 x.d, .string x.name] T, (Below.refl _ _).alloc (Nat.le_refl _) _⟩
theorem BoxX.below {W w w' : World} {x : I} (h : BoxX W x w) (hb : Below w.heap.size w w') : BoxX W x w' := ⟨h.1.below hb, h.2.trans (hb.mono h.2.size)⟩
theorem BoxX.six {W w : World} {x : I} (h : BoxX W x w) : w.cell? ⟨W.heap.size, 0, none⟩ = some (.int .i64 x.op) ∧ w.cell? ⟨W.heap.size, 1, none⟩ = some (.int .i64 x.a) ∧ w.cell? ⟨W.heap.size, 2, none⟩ = some (.int .i64 x.b) ∧
    w.cell? ⟨W.heap.size, 3, none⟩ = some (.int .i64 x.c) ∧ w.cell? ⟨W.heap.size, 4, none⟩ = some (.int .i64 x.d) ∧ w.cell? ⟨W.heap.size, 5, none⟩ = some (.string x.name) :=
  ⟨h.1.2 0 _ rfl, h.1.2 1 _ rfl, h.1.2 2 _ rfl, h.1.2 3 _ rfl, h.1.2 4 _ rfl, h.1.2 5 _ rfl⟩
end Go.Proofs.YthgcodbcafpmhaaDoor
