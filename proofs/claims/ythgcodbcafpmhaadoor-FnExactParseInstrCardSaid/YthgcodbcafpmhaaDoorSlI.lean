/- The law's helpers over []int: copied anew, held against one another, marked, looked at again. -/
import Derived.Test.YthgcodbcafpmhaaDoorSlB
import Derived.Test.YthgcodbcafpmhaaDoorProg
import Derived.LoopTactic
import Derived.Lib.Hide
import Derived.Deep.QuietTactic
import Derived.BigQuiet
namespace Go.Proofs.YthgcodbcafpmhaaDoor
open Go.RowKit
theorem infoI : (Tryd.prog.info? 3).map (fun i => (i.zero, i.size, i.bytes)) = some (some (.int .i64 0), 1, 8) := by kernel_rfl

/-- The first i are copied. -/
def UptoI (w : World) (zs : List Int) (n i : Nat) (wr : World) : Prop :=
  ∃ ys : List Int, Own .i64 3 w.heap.size (w.heap.size + 1) wr (some ⟨w.heap.size, 0, none⟩) n n ys ∧ (∀ j, j < i → ys[j]? = zs[j]?) ∧ Below w.heap.size w wr
theorem UptoI.next {w wr : World} {zs : List Int} {n i : Nat} {z : Int} (h : UptoI w zs n i wr) (hz : zs[i]? = some z) (hi : i < n) : UptoI w zs n (i + 1) (wr.setCell ⟨w.heap.size, i, none⟩ (.int .i64 z)) := by
  obtain ⟨ys, hO, hy, hb⟩ := h
  obtain ⟨h1, h2⟩ := hO.store (i := i) rfl z
  refine ⟨_, h1, fun j hj => ?_, h2.below hb (Nat.le_refl _) hb.size⟩
  rw [List.getElem?_set]
  by_cases e : i = j
  · subst e
    rw [if_pos rfl, if_pos (by have := hO.1; omega), hz]
  · rw [if_neg e]
    exact hy j (by omega)
theorem UptoI.ret {w wr : World} {zs : List Int} {n : Nat} (h : UptoI w zs n n wr) (hn : zs.length = n) : Fresh .i64 3 zs w (.returned (.slice (some ⟨w.heap.size, 0, none⟩) n n)) wr := by
  obtain ⟨ys, hO, hy, hb⟩ := h
  have e : ys = zs := by
    apply List.ext_getElem?
    intro j
    by_cases hj : j < n
    · exact hy j hj
    · rw [List.getElem?_eq_none (by have := hO.1; omega), List.getElem?_eq_none (by omega)]
  subst e
  have hs := hO.2.2.1
  exact Fresh.ret (hO.more hs (Nat.le_refl _)) hb
/-- The marks from m on. -/
def marksI (m : Int) (n : Nat) : List Int := (List.range n).map fun (i : Nat) => m + (i : Int)
theorem marksI_len (m : Int) (n : Nat) : (marksI m n).length = n := by simp [marksI]
theorem marksI_at (m : Int) (n i : Nat) (h : i < n) : (marksI m n)[i]? = some (m + (i : Int)) := by simp [marksI, h]
/-- The first i are marked. -/
def MarkI (lo hi : Nat) (w : World) (A : Option Addr) (n c : Nat) (m : Int) (i : Nat) (wr : World) : Prop :=
  ∃ ys : List Int, Own .i64 3 lo hi wr A n c ys ∧ (∀ j, j < i → ys[j]? = (marksI m n)[j]?) ∧ Step lo hi w wr
theorem MarkI.next {lo hi : Nat} {w wr : World} {g n c : Nat} {m : Int} {i : Nat} (h : MarkI lo hi w (some ⟨g, 0, none⟩) n c m i wr) (hi' : i < n) : MarkI lo hi w (some ⟨g, 0, none⟩) n c m (i + 1) (wr.setCell ⟨g, i, none⟩ (.int .i64 (m + (i : Int)))) := by
  obtain ⟨ys, hO, hy, hb⟩ := h
  obtain ⟨h1, h2⟩ := hO.store (i := i) rfl (m + (i : Int))
  refine ⟨_, h1, fun j hj => ?_, hb.trans h2⟩
  rw [List.getElem?_set]
  by_cases e : i = j
  · subst e
    rw [if_pos rfl, if_pos (by have := hO.1; omega), marksI_at _ _ _ hi']
  · rw [if_neg e]
    exact hy j (by omega)
/-- Marked. -/
def MarkedI (lo hi : Nat) (w : World) (A : Option Addr) (n c : Nat) (m : Int) (e : Ending) (w' : World) : Prop :=
  e = .returned (.int .i64 (m + (n : Int))) ∧ Own .i64 3 lo hi w' A n c (marksI m n) ∧ Step lo hi w w'
theorem MarkI.ret {lo hi : Nat} {w wr : World} {A : Option Addr} {n c : Nat} {m : Int} (h : MarkI lo hi w A n c m n wr) : MarkedI lo hi w A n c m (.returned (.int .i64 (m + (n : Int)))) wr := by
  obtain ⟨ys, hO, hy, hb⟩ := h
  obtain rfl : ys = marksI m n := zs_ext hO.1 (marksI_len m n) hy
  exact ⟨rfl, hO, hb⟩
end Go.Proofs.YthgcodbcafpmhaaDoor
