/- The program's table of operations: its row of each number. -/
import Derived.Test.YtgibhbplgiejpaaGreatInsA
import Derived.Test.YtgibhbplgiejpaaGreatBase
import Derived.Laws.EntriesVeiled
import Derived.Deep.WholeRow
namespace Go.Proofs.YtgibhbplgiejpaaGreat
open Go.RowKit
/-- A row comes back. -/
def GivesF (nm : ByteArray) (f g : Nat) (b : Bool) (w : World) (e : Ending) (w' : World) : Prop := e = .returned (.agg #[.string nm, .func (.func f) #[] #[], .func (.func g) #[] #[], .bool b]) ∧ Below w.heap.size w w'
theorem GivesF.ret {nm : ByteArray} {f g : Nat} {b : Bool} {w w' : World} (h : Below w.heap.size w w') : GivesF nm f g b w (.returned (.agg #[.string nm, .func (.func f) #[] #[], .func (.func g) #[] #[], .bool b])) w' := ⟨rfl, h⟩
theorem inR_not {n a b : Int} (h : ¬ (a ≤ n ∧ n ≤ b)) : inR n a b = false := decide_eq_false h
theorem inR_is {n a b : Int} (h1 : a ≤ n) (h2 : n ≤ b) : inR n a b = true := decide_eq_true ⟨h1, h2⟩
theorem fieldName (nm : ByteArray) (f g : Nat) (b : Bool) (w : World) : (Instr.field 64 (.agg #[.string nm, .func (.func f) #[] #[], .func (.func g) #[] #[], .bool b]) 0).run Tryz.prog w = .ok (.string nm) w := by kernel_rfl
theorem fieldFits (nm : ByteArray) (f g : Nat) (b : Bool) (w : World) : (Instr.field 64 (.agg #[.string nm, .func (.func f) #[] #[], .func (.func g) #[] #[], .bool b]) 1).run Tryz.prog w = .ok (.func (.func f) #[] #[]) w := by kernel_rfl
theorem fieldReads (nm : ByteArray) (f g : Nat) (b : Bool) (w : World) : (Instr.field 64 (.agg #[.string nm, .func (.func f) #[] #[], .func (.func g) #[] #[], .bool b]) 2).run Tryz.prog w = .ok (.func (.func g) #[] #[]) w := by kernel_rfl
theorem fieldWrites (nm : ByteArray) (f g : Nat) (b : Bool) (w : World) : (Instr.field 64 (.agg #[.string nm, .func (.func f) #[] #[], .func (.func g) #[] #[], .bool b]) 3).run Tryz.prog w = .ok (.bool b) w := by kernel_rfl
/-- Four cells of one new block are stored. -/
theorem Box.four {w : World} {g : Nat} {x y z u : Value} (h : Box g [x, y, z, u] w) (a b c d : Value) :
    ((((w.setCell ⟨g, 0, none⟩ a).setCell ⟨g, 1, none⟩ b).setCell ⟨g, 2, none⟩ c).setCell ⟨g, 3, none⟩ d).cell? ⟨g, 0, none⟩ = some a ∧
    ((((w.setCell ⟨g, 0, none⟩ a).setCell ⟨g, 1, none⟩ b).setCell ⟨g, 2, none⟩ c).setCell ⟨g, 3, none⟩ d).cell? ⟨g, 1, none⟩ = some b ∧
    ((((w.setCell ⟨g, 0, none⟩ a).setCell ⟨g, 1, none⟩ b).setCell ⟨g, 2, none⟩ c).setCell ⟨g, 3, none⟩ d).cell? ⟨g, 2, none⟩ = some c ∧
    ((((w.setCell ⟨g, 0, none⟩ a).setCell ⟨g, 1, none⟩ b).setCell ⟨g, 2, none⟩ c).setCell ⟨g, 3, none⟩ d).cell? ⟨g, 3, none⟩ = some d := by
  have ne : ∀ i j : Nat, i ≠ j → (⟨g, i, none⟩ : Addr) ≠ ⟨g, j, none⟩ := fun i j hij e => hij (by injection e)
  have h0 := h.2 0 x rfl
  have h1 := h.2 1 y rfl
  have h2 := h.2 2 z rfl
  have h3 := h.2 3 u rfl
  refine ⟨?_, ?_, ?_, ?_⟩
  · rw [World.cell?_setCell_other (h := ne 3 0 (by omega)), World.cell?_setCell_other (h := ne 2 0 (by omega)), World.cell?_setCell_other (h := ne 1 0 (by omega))]
    exact World.cell?_setCell_same _ _ _ h0
  · rw [World.cell?_setCell_other (h := ne 3 1 (by omega)), World.cell?_setCell_other (h := ne 2 1 (by omega))]
    exact World.cell?_setCell_same _ _ _ (u := y) (by rw [World.cell?_setCell_other (h := ne 0 1 (by omega))]; exact h1)
  · rw [World.cell?_setCell_other (h := ne 3 2 (by omega))]
    exact World.cell?_setCell_same _ _ _ (u := z) (by rw [World.cell?_setCell_other (h := ne 1 2 (by omega)), World.cell?_setCell_other (h := ne 0 2 (by omega))]; exact h2)
  · exact World.cell?_setCell_same _ _ _ (u := u) (by rw [World.cell?_setCell_other (h := ne 2 3 (by omega)), World.cell?_setCell_other (h := ne 1 3 (by omega)), World.cell?_setCell_other (h := ne 0 3 (by omega))]; exact h3)
def table : Array Value := #[.string ⟨#[]⟩, .func (.func 59) #[] #[], .func (.func 60) #[] #[], .bool false, .string ⟨#[99, 111, 110, 115, 116]⟩, .func (.func 61) #[] #[], .func (.func 60) #[] #[], .bool true, .string ⟨#[97, 114, 103]⟩, .func (.func 62) #[] #[], .func (.func 60) #[] #[], .bool true, .string ⟨#[115, 108, 111, 116]⟩, .func (.func 63) #[] #[], .func (.func 60) #[] #[], .bool true, .string ⟨#[115, 101, 108, 102]⟩, .func (.func 64) #[] #[], .func (.func 60) #[] #[], .bool true, .string ⟨#[97, 100, 100]⟩, .func (.func 65) #[] #[], .func (.func 66) #[] #[], .bool true, .string ⟨#[115, 101, 110, 100]⟩, .func (.func 67) #[] #[], .func (.func 68) #[] #[], .bool true, .string ⟨#[110, 101, 119]⟩, .func (.func 69) #[] #[], .func (.func 70) #[] #[], .bool true, .string ⟨#[115, 101, 116]⟩, .func (.func 71) #[] #[], .func (.func 72) #[] #[], .bool false, .string ⟨#[115, 107, 105, 112]⟩, .func (.func 73) #[] #[], .func (.func 74) #[] #[], .bool false, .string ⟨#[114, 101, 116, 117, 114, 110]⟩, .func (.func 64) #[] #[], .func (.func 74) #[] #[], .bool false]
theorem wpList_build_to {P : Program} {ops : Array Oper} {Q : Exit → Act → World → Prop} {rest : List Oper} {o : Oper} {a : Act} {w : World} (hg : o.guard = none) (t : TypeId) (parts : Array (Nat × Operand)) (ho : o.op = .build t parts)
    (vals : List (Nat × Value)) (hv : (parts.map fun (i, x) => (i, a.eval x)).toList = vals) (cells : Array Value) (hb : P.built t vals = some cells) (h : wpList P ops Q rest (a.put o.dst (.agg cells)) w) : wpList P ops Q (o :: rest) a w := by
  subst hv
  refine wpList_build hg t parts ho (by rw [hb]; rfl) ?_
  rw [hb]
  exact h
def tableVals : List (Nat × Value) := [(0, .agg #[.string ⟨#[]⟩, .func (.func 59) #[] #[], .func (.func 60) #[] #[], .bool false]), (1, .agg #[.string ⟨#[99, 111, 110, 115, 116]⟩, .func (.func 61) #[] #[], .func (.func 60) #[] #[], .bool true]), (2, .agg #[.string ⟨#[97, 114, 103]⟩, .func (.func 62) #[] #[], .func (.func 60) #[] #[], .bool true]), (3, .agg #[.string ⟨#[115, 108, 111, 116]⟩, .func (.func 63) #[] #[], .func (.func 60) #[] #[], .bool true]), (4, .agg #[.string ⟨#[115, 101, 108, 102]⟩, .func (.func 64) #[] #[], .func (.func 60) #[] #[], .bool true]), (5, .agg #[.string ⟨#[97, 100, 100]⟩, .func (.func 65) #[] #[], .func (.func 66) #[] #[], .bool true]), (6, .agg #[.string ⟨#[115, 101, 110, 100]⟩, .func (.func 67) #[] #[], .func (.func 68) #[] #[], .bool true]), (7, .agg #[.string ⟨#[110, 101, 119]⟩, .func (.func 69) #[] #[], .func (.func 70) #[] #[], .bool true]), (8, .agg #[.string ⟨#[115, 101, 116]⟩, .func (.func 71) #[] #[], .func (.func 72) #[] #[], .bool false]), (9, .agg #[.string ⟨#[115, 107, 105, 112]⟩, .func (.func 73) #[] #[], .func (.func 74) #[] #[], .bool false]), (10, .agg #[.string ⟨#[114, 101, 116, 117, 114, 110]⟩, .func (.func 64) #[] #[], .func (.func 74) #[] #[], .bool false])]
theorem tableBuilt : Tryz.prog.built 89 tableVals = some table := by kernel_rfl
theorem tableSize : (Tryz.prog.info? 89).map (·.size) = some table.size := by kernel_rfl
theorem tableOne : table.all (·.oneCell') = true := by kernel_rfl
/-- The table is laid; the result's cells lie before it. -/
def Tabled (w w2 : World) : Prop := Box (w.heap.size + 1) table.toList w2 ∧ Zb w.heap.size w.heap.size [.string ⟨#[]⟩, .nilFunc, .nilFunc, .bool false] w2 ∧ Below w.heap.size w w2
theorem Tabled.mk_ (w : World) (z : Array Value) : Tabled w (((w.alloc (.cells #[.string ⟨#[]⟩, .nilFunc, .nilFunc, .bool false] 64)).alloc (.cells z 89)).setRow (w.heap.size + 1) table) := by
  have e : (w.alloc (.cells #[.string ⟨#[]⟩, .nilFunc, .nilFunc, .bool false] 64)).heap.size = w.heap.size + 1 := by simp
  rw [← e, World.setRow_alloc_new]
  refine ⟨by have := Box.new (w.alloc (.cells #[.string ⟨#[]⟩, .nilFunc, .nilFunc, .bool false] 64)) table 89; rw [e] at this; exact this, ?_, ((Below.refl _ _).alloc (Nat.le_refl _) _).alloc (by simp) _⟩
  exact (Zb.new w _ _ (Nat.le_refl _)).below ((Below.refl _ _).alloc (Nat.le_refl _) _)
theorem two_last (w : World) (X o : Obj) : ((w.alloc X).alloc o).heap[w.heap.size + 1]? = some o := by
  have := heap_alloc_last (w.alloc X) o
  have e : (w.alloc X).heap.size = w.heap.size + 1 := by simp
  rw [e] at this
  exact this
theorem store_table {ops : Array Oper} {Q : Exit → Act → World → Prop} {rest : List Oper} {o : Oper} {a : Act} {w : World} {z : Array Value} (hg : o.guard = none) (ho : o.op = .store 89 (.tmp 3) (.tmp 15))
    (hx : a.eval (.tmp 3) = .pointer (some ⟨w.heap.size + 1, 0, none⟩)) (hy : a.eval (.tmp 15) = .agg table) (hz : z.size = table.size) (h : ∀ w2, Hid (Tabled w w2) → wpList Tryz.prog ops Q rest (a.put o.dst undef) w2) :
    wpList Tryz.prog ops Q (o :: rest) a ((w.alloc (.cells #[.string ⟨#[]⟩, .nilFunc, .nilFunc, .bool false] 64)).alloc (.cells z 89)) :=
  wpList_store_row hg 89 (.tmp 3) (.tmp 15) ho (w.heap.size + 1) table hx hy 89 z (two_last _ _ _) tableSize hz tableOne (h _ (Tabled.mk_ w z))
set_option maxRecDepth 100000 in
set_option maxHeartbeats 1000000 in
theorem formIn (k : Nat) (h1 : 1 ≤ k) (h2 : k ≤ 10) (nm : ByteArray) (f g : Nat) (b : Bool) (w : World) (t0 : table.toList[k * 4]? = some (.string nm)) (t1 : table.toList[k * 4 + 1]? = some (.func (.func f) #[] #[])) (t2 : table.toList[k * 4 + 2]? = some (.func (.func g) #[] #[])) (t3 : table.toList[k * 4 + 3]? = some (.bool b)) :
    Calls Tryz.prog 36 #[.int .i64 k] w (GivesF nm f g b w) := by
  have hr : inR (k : Int) 1 10 = true := inR_is (by omega) (by omega)
  have T0 := Lib.hid t0
  have T1 := Lib.hid t1
  have T2 := Lib.hid t2
  have T3 := Lib.hid t3
  clear t0 t1 t2 t3
  go_enter Tryz.func36, Tryz.ntmps36
  go_wp2_with (first
  | (refine wpList_build_to rfl 89 _ rfl tableVals ?_ table tableBuilt ?_
     · kernel_rfl)
  | (refine store_table rfl rfl rfl rfl rfl ?_
     intro w2 HT
     have c0 := HT.out.1.2 (k * 4) _ T0.out
     have c1 := HT.out.1.2 (k * 4 + 1) _ T1.out
     have c2 := HT.out.1.2 (k * 4 + 2) _ T2.out
     have c3 := HT.out.1.2 (k * 4 + 3) _ T3.out
     have r0 := HT.out.2.1.2.1.2 0 _ rfl
     have r1 := HT.out.2.1.2.1.2 1 _ rfl
     have r2 := HT.out.2.1.2.1.2 2 _ rfl
     have r3 := HT.out.2.1.2.1.2 3 _ rfl
     have f0 := HT.out.2.1.2.2 0
     have f1 := HT.out.2.1.2.2 1
     have f2 := HT.out.2.1.2.2 2
     have f3 := HT.out.2.1.2.2 3))
  refine (implInR k 1 10 _).mono ?_
  rintro e w' ⟨rfl, rfl⟩
  go_wp2_with fail
  obtain ⟨q0, q1, q2, q3⟩ := HT.out.2.1.2.1.four (.string nm) (.func (.func f) #[] #[]) (.func (.func g) #[] #[]) (.bool b)
  refine bodyPost_ret (v := .agg #[.string nm, .func (.func f) #[] #[], .func (.func g) #[] #[], .bool b]) (by simp [results, Tryz.results36, go_sem, q0, q1, q2, q3]) rfl ?_
  exact GivesF.ret ((((HT.out.2.2.setCell (Nat.le_refl _) _).setCell (Nat.le_refl _) _).setCell (Nat.le_refl _) _).setCell (Nat.le_refl _) _)
set_option maxRecDepth 100000 in
set_option maxHeartbeats 1000000 in
theorem form0 (op : Int) (w : World) (h : ¬ (1 ≤ op ∧ op ≤ 10)) : Calls Tryz.prog 36 #[.int .i64 op] w (GivesF ⟨#[]⟩ 59 60 false w) := by
  have hr := inR_not h
  clear h
  go_enter Tryz.func36, Tryz.ntmps36
  go_wp2_with (first
  | (refine wpList_build_to rfl 89 _ rfl tableVals ?_ table tableBuilt ?_
     · kernel_rfl)
  | (refine store_table rfl rfl rfl rfl rfl ?_
     intro w2 HT
     have c0 := HT.out.1.2 (0) _ rfl
     have c1 := HT.out.1.2 (0 + 1) _ rfl
     have c2 := HT.out.1.2 (0 + 2) _ rfl
     have c3 := HT.out.1.2 (0 + 3) _ rfl
     have r0 := HT.out.2.1.2.1.2 0 _ rfl
     have r1 := HT.out.2.1.2.1.2 1 _ rfl
     have r2 := HT.out.2.1.2.1.2 2 _ rfl
     have r3 := HT.out.2.1.2.1.2 3 _ rfl
     have f0 := HT.out.2.1.2.2 0
     have f1 := HT.out.2.1.2.2 1
     have f2 := HT.out.2.1.2.2 2
     have f3 := HT.out.2.1.2.2 3))
  refine (implInR op 1 10 _).mono ?_
  rintro e w' ⟨rfl, rfl⟩
  go_wp2_with fail
  obtain ⟨q0, q1, q2, q3⟩ := HT.out.2.1.2.1.four (.string ⟨#[]⟩) (.func (.func 59) #[] #[]) (.func (.func 60) #[] #[]) (.bool false)
  refine bodyPost_ret (v := .agg #[.string ⟨#[]⟩, .func (.func 59) #[] #[], .func (.func 60) #[] #[], .bool false]) (by simp [results, Tryz.results36, go_sem, q0, q1, q2, q3]) rfl ?_
  exact GivesF.ret ((((HT.out.2.2.setCell (Nat.le_refl _) _).setCell (Nat.le_refl _) _).setCell (Nat.le_refl _) _).setCell (Nat.le_refl _) _)
theorem form1 (w : World) : Calls Tryz.prog 36 #[.int .i64 1] w (GivesF ⟨#[99, 111, 110, 115, 116]⟩ 61 60 true w) := formIn 1 (by omega) (by omega) _ _ _ _ w rfl rfl rfl rfl
theorem form2 (w : World) : Calls Tryz.prog 36 #[.int .i64 2] w (GivesF ⟨#[97, 114, 103]⟩ 62 60 true w) := formIn 2 (by omega) (by omega) _ _ _ _ w rfl rfl rfl rfl
theorem form3 (w : World) : Calls Tryz.prog 36 #[.int .i64 3] w (GivesF ⟨#[115, 108, 111, 116]⟩ 63 60 true w) := formIn 3 (by omega) (by omega) _ _ _ _ w rfl rfl rfl rfl
theorem form4 (w : World) : Calls Tryz.prog 36 #[.int .i64 4] w (GivesF ⟨#[115, 101, 108, 102]⟩ 64 60 true w) := formIn 4 (by omega) (by omega) _ _ _ _ w rfl rfl rfl rfl
theorem form5 (w : World) : Calls Tryz.prog 36 #[.int .i64 5] w (GivesF ⟨#[97, 100, 100]⟩ 65 66 true w) := formIn 5 (by omega) (by omega) _ _ _ _ w rfl rfl rfl rfl
theorem form6 (w : World) : Calls Tryz.prog 36 #[.int .i64 6] w (GivesF ⟨#[115, 101, 110, 100]⟩ 67 68 true w) := formIn 6 (by omega) (by omega) _ _ _ _ w rfl rfl rfl rfl
theorem form7 (w : World) : Calls Tryz.prog 36 #[.int .i64 7] w (GivesF ⟨#[110, 101, 119]⟩ 69 70 true w) := formIn 7 (by omega) (by omega) _ _ _ _ w rfl rfl rfl rfl
theorem form8 (w : World) : Calls Tryz.prog 36 #[.int .i64 8] w (GivesF ⟨#[115, 101, 116]⟩ 71 72 false w) := formIn 8 (by omega) (by omega) _ _ _ _ w rfl rfl rfl rfl
theorem form9 (w : World) : Calls Tryz.prog 36 #[.int .i64 9] w (GivesF ⟨#[115, 107, 105, 112]⟩ 73 74 false w) := formIn 9 (by omega) (by omega) _ _ _ _ w rfl rfl rfl rfl
theorem form10 (w : World) : Calls Tryz.prog 36 #[.int .i64 10] w (GivesF ⟨#[114, 101, 116, 117, 114, 110]⟩ 64 74 false w) := formIn 10 (by omega) (by omega) _ _ _ _ w rfl rfl rfl rfl
end Go.Proofs.YtgibhbplgiejpaaGreat
