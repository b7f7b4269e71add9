/- The exact laws of IntValue, RefValue, BrokenValue, AddInts, IsNumber. -/
import Derived.Test.YtiojckpopgpacaaImplW
import Derived.Test.YtiojckpopgpacaaAddI
import Derived.Test.YtiojckpopgpacaaOpenV
namespace Go.Proofs.Ytiojckpopgpacaa
open Go.RowKit
/-- A record in its box. -/
def Bx (b : Nat) (x : V) (w : World) : Prop := b < w.heap.size ∧ w.cell? ⟨b, 0, none⟩ = some (.int .i64 x.kind) ∧ w.cell? ⟨b, 1, none⟩ = some (.int .i64 x.n)
theorem Bx.mk_ (w : World) (x : V) (T : TypeId) : Bx w.heap.size x (w.alloc (.cells #[.int .i64 x.kind, .int .i64 x.n] T)) := by
  refine ⟨by simp, ?_, ?_⟩ <;> simp [go_sem]
theorem Bx.below {b : Nat} {x : V} {w w' : World} (h : Bx b x w) (hb : Below w.heap.size w w') : Bx b x w' :=
  ⟨Nat.lt_of_lt_of_le h.1 hb.size, cell_lowV hb h.1 h.2.1, cell_lowV hb h.1 h.2.2⟩
theorem Bx.alloc {b : Nat} {x : V} {w : World} (h : Bx b x w) (o : Obj) : Bx b x (w.alloc o) := h.below ((Below.refl _ _).alloc (Nat.le_refl _) o)
theorem Bx.drew {b : Nat} {x : V} {w : World} (h : Bx b x w) : Bx b x w.drew := h
theorem law_Int (n : Int) (W : World) : Calls Try.prog 4 #[.int .i64 n] W (GivesBool true W) := by
  obtain ⟨x, hx⟩ : ∃ x : V, intV n = x := ⟨_, rfl⟩
  have HX := Lib.hid hx
  clear hx
  go_enter Try.func4, Try.ntmps4
  go_wp2_with fail
  refine (specIntV n _).mono ?_
  rintro e w1 ⟨rfl, hb⟩
  rw [HX.out]
  have HB1 := Lib.hid hb
  clear hb
  go_wp2_with fail
  refine (implIntV n _).mono ?_
  rintro e w2 ⟨rfl, hb⟩
  rw [HX.out]
  have HB2 := Lib.hid (HB1.out.trans (((Below.refl _ _).alloc HB1.out.size (.cells #[.int .i64 x.kind, .int .i64 x.n] 25)).trans (hb.mono (by have := HB1.out.size; simp; omega))))
  obtain ⟨-, c0, c1⟩ := ((Bx.mk_ w1 x 25).below hb).alloc (.cells #[.int .i64 x.kind, .int .i64 x.n] 25)
  clear hb
  go_wp2_with fail
  refine (eqV_yes x _).mono ?_
  rintro e w3 ⟨rfl, hb⟩
  have HB3 := Lib.hid (HB2.out.trans (((Below.refl _ _).alloc HB2.out.size _).trans (hb.mono (by have := HB2.out.size; simp; omega))))
  clear hb
  go_wp2_with fail
  go_ret
  exact GivesBool.ret HB3.out
theorem law_Ref (n : Int) (W : World) : Calls Try.prog 5 #[.int .i64 n] W (GivesBool true W) := by
  obtain ⟨x, hx⟩ : ∃ x : V, ⟨1, n⟩ = x := ⟨_, rfl⟩
  have HX := Lib.hid hx
  clear hx
  go_enter Try.func5, Try.ntmps5
  go_wp2_with fail
  refine (specRefV n _).mono ?_
  rintro e w1 ⟨rfl, hb⟩
  rw [HX.out]
  have HB1 := Lib.hid hb
  clear hb
  go_wp2_with fail
  refine (implRefV n _).mono ?_
  rintro e w2 ⟨rfl, hb⟩
  rw [HX.out]
  have HB2 := Lib.hid (HB1.out.trans (((Below.refl _ _).alloc HB1.out.size (.cells #[.int .i64 x.kind, .int .i64 x.n] 25)).trans (hb.mono (by have := HB1.out.size; simp; omega))))
  obtain ⟨-, c0, c1⟩ := ((Bx.mk_ w1 x 25).below hb).alloc (.cells #[.int .i64 x.kind, .int .i64 x.n] 25)
  clear hb
  go_wp2_with fail
  refine (eqV_yes x _).mono ?_
  rintro e w3 ⟨rfl, hb⟩
  have HB3 := Lib.hid (HB2.out.trans (((Below.refl _ _).alloc HB2.out.size _).trans (hb.mono (by have := HB2.out.size; simp; omega))))
  clear hb
  go_wp2_with fail
  go_ret
  exact GivesBool.ret HB3.out
theorem law_Bro (W : World) : Calls Try.prog 6 #[] W (GivesBool true W) := by
  obtain ⟨x, hx⟩ : ∃ x : V, ⟨2, 0⟩ = x := ⟨_, rfl⟩
  have HX := Lib.hid hx
  clear hx
  go_enter Try.func6, Try.ntmps6
  go_wp2_with fail
  refine (specBroV _).mono ?_
  rintro e w1 ⟨rfl, hb⟩
  rw [HX.out]
  have HB1 := Lib.hid hb
  clear hb
  go_wp2_with fail
  refine (implBroV _).mono ?_
  rintro e w2 ⟨rfl, hb⟩
  rw [HX.out]
  have HB2 := Lib.hid (HB1.out.trans (((Below.refl _ _).alloc HB1.out.size (.cells #[.int .i64 x.kind, .int .i64 x.n] 25)).trans (hb.mono (by have := HB1.out.size; simp; omega))))
  obtain ⟨-, c0, c1⟩ := ((Bx.mk_ w1 x 25).below hb).alloc (.cells #[.int .i64 x.kind, .int .i64 x.n] 25)
  clear hb
  go_wp2_with fail
  refine (eqV_yes x _).mono ?_
  rintro e w3 ⟨rfl, hb⟩
  have HB3 := Lib.hid (HB2.out.trans (((Below.refl _ _).alloc HB2.out.size _).trans (hb.mono (by have := HB2.out.size; simp; omega))))
  clear hb
  go_wp2_with fail
  go_ret
  exact GivesBool.ret HB3.out
end Go.Proofs.Ytiojckpopgpacaa
