/- The law's helpers over []uint8: copied anew, held against one another, marked, looked at again. -/
import Derived.Test.YthgcodbcafpmhaaDoorKit
import Derived.Test.YthgcodbcafpmhaaDoorProg
import Derived.LoopTactic
import Derived.Lib.Hide
import Derived.Deep.QuietTactic
import Derived.BigQuiet
namespace Go.Proofs.YthgcodbcafpmhaaDoor
open Go.RowKit
theorem infoB : (Tryd.prog.info? 5).map (fun i => (i.zero, i.size, i.bytes)) = some (some (.int .u8 0), 1, 1) := by kernel_rfl

/-- The first i are copied. -/
def UptoB (w : World) (zs : List Int) (n i : Nat) (wr : World) : Prop :=
  ∃ ys : List Int, Own .u8 5 w.heap.size (w.heap.size + 1) wr (some ⟨w.heap.size, 0, none⟩) n n ys ∧ (∀ j, j < i → ys[j]? = zs[j]?) ∧ Below w.heap.size w wr
theorem UptoB.next {w wr : World} {zs : List Int} {n i : Nat} {z : Int} (h : UptoB w zs n i wr) (hz : zs[i]? = some z) (hi : i < n) : UptoB w zs n (i + 1) (wr.setCell ⟨w.heap.size, i, none⟩ (.int .u8 z)) := by
  obtain ⟨ys, hO, hy, hb⟩ := h
  obtain ⟨h1, h2⟩ := hO.store (i := i) rfl z
  refine ⟨_, h1, fun j hj => ?_, h2.below hb (Nat.le_refl _) hb.size⟩
  rw [List.getElem?_set]
  by_cases e : i = j
  · subst e
    rw [if_pos rfl, if_pos (by have := hO.1; omega), hz]
  · rw [if_neg e]
    exact hy j (by omega)
theorem UptoB.ret {w wr : World} {zs : List Int} {n : Nat} (h : UptoB w zs n n wr) (hn : zs.length = n) : Fresh .u8 5 zs w (.returned (.slice (some ⟨w.heap.size, 0, none⟩) n n)) wr := by
  obtain ⟨ys, hO, hy, hb⟩ := h
  have e : ys = zs := by
    apply List.ext_getElem?
    intro j
    by_cases hj : j < n
    · exact hy j hj
    · rw [List.getElem?_eq_none (by have := hO.1; omega), List.getElem?_eq_none (by omega)]
  subst e
  have hs := hO.2.2.1
  exact Fresh.ret (hO.more hs (Nat.le_refl _)) hb
theorem zs_ext {zs ys : List Int} {n : Nat} (h : zs.length = n) (h' : ys.length = n) (hs : ∀ j, j < n → zs[j]? = ys[j]?) : zs = ys := by
  apply List.ext_getElem?
  intro j
  by_cases hj : j < n
  · exact hs j hj
  · rw [List.getElem?_eq_none (by omega), List.getElem?_eq_none (by omega)]
/-- The marks from m on. -/
def marksB (m : Int) (n : Nat) : List Int := (List.range n).map fun (i : Nat) => (m + (i : Int)) % 256
theorem marksB_len (m : Int) (n : Nat) : (marksB m n).length = n := by simp [marksB]
theorem marksB_at (m : Int) (n i : Nat) (h : i < n) : (marksB m n)[i]? = some ((m + (i : Int)) % 256) := by simp [marksB, h]
/-- The first i are marked. -/
def MarkB (lo hi : Nat) (w : World) (A : Option Addr) (n c : Nat) (m : Int) (i : Nat) (wr : World) : Prop :=
  ∃ ys : List Int, Own .u8 5 lo hi wr A n c ys ∧ (∀ j, j < i → ys[j]? = (marksB m n)[j]?) ∧ Step lo hi w wr
theorem MarkB.next {lo hi : Nat} {w wr : World} {g n c : Nat} {m : Int} {i : Nat} (h : MarkB lo hi w (some ⟨g, 0, none⟩) n c m i wr) (hi' : i < n) : MarkB lo hi w (some ⟨g, 0, none⟩) n c m (i + 1) (wr.setCell ⟨g, i, none⟩ (.int .u8 ((m + (i : Int)) % 256))) := by
  obtain ⟨ys, hO, hy, hb⟩ := h
  obtain ⟨h1, h2⟩ := hO.store (i := i) rfl ((m + (i : Int)) % 256)
  refine ⟨_, h1, fun j hj => ?_, hb.trans h2⟩
  rw [List.getElem?_set]
  by_cases e : i = j
  · subst e
    rw [if_pos rfl, if_pos (by have := hO.1; omega), marksB_at _ _ _ hi']
  · rw [if_neg e]
    exact hy j (by omega)
/-- Marked. -/
def MarkedB (lo hi : Nat) (w : World) (A : Option Addr) (n c : Nat) (m : Int) (e : Ending) (w' : World) : Prop :=
  e = .returned (.int .i64 (m + (n : Int))) ∧ Own .u8 5 lo hi w' A n c (marksB m n) ∧ Step lo hi w w'
theorem MarkB.ret {lo hi : Nat} {w wr : World} {A : Option Addr} {n c : Nat} {m : Int} (h : MarkB lo hi w A n c m n wr) : MarkedB lo hi w A n c m (.returned (.int .i64 (m + (n : Int)))) wr := by
  obtain ⟨ys, hO, hy, hb⟩ := h
  obtain rfl : ys = marksB m n := zs_ext hO.1 (marksB_len m n) hy
  exact ⟨rfl, hO, hb⟩
end Go.Proofs.YthgcodbcafpmhaaDoor
