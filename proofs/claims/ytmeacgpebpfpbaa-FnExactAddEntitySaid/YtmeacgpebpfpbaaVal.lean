/- Values: the record; what the laws do with one, and with slices of them. -/
import Derived.Test.YtmeacgpebpfpbaaBase
import Derived.LoopTactic
import Derived.Lib.Hide
import Derived.Deep.QuietTactic
import Derived.BigQuiet
import Derived.Deep.RegionWith
namespace Go.Proofs.Ytmeacgpebpfpbaa
open Go.RowKit
structure V where
  kind : Int
  n : Int
def layV : Lay V := ⟨fun v => [.int .i64 v.kind, .int .i64 v.n], 2, by omega, fun _ => rfl, fun a u hu => by
  rcases List.mem_cons.1 hu with rfl | hu
  · rfl
  · obtain rfl := List.mem_singleton.1 hu
    rfl⟩
def GivesV (v : V) (w : World) (e : Ending) (w' : World) : Prop := e = .returned (.agg #[.int .i64 v.kind, .int .i64 v.n]) ∧ Below w.heap.size w w'
theorem GivesV.ret {v : V} {a b : Int} {w w' : World} (h1 : a = v.kind) (h2 : b = v.n) (hb : Below w.heap.size w w') : GivesV v w (.returned (.agg #[.int .i64 a, .int .i64 b])) w' := ⟨by rw [h1, h2], hb⟩
def UptoV (w : World) (L : List V) (n i : Nat) (wr : World) : Prop :=
  ∃ ys : List V, FO layV 31 w.heap.size (w.heap.size + 1) wr (some ⟨w.heap.size, 0, none⟩) n n ys ∧ (∀ j, j < i → ys[j]? = L[j]?) ∧ Below w.heap.size w wr
theorem UptoV.below {w wr w2 : World} {L : List V} {n i : Nat} (h : UptoV w L n i wr) (hb : Below wr.heap.size wr w2) : UptoV w L n i w2 := by
  obtain ⟨ys, hO, hy, hb1⟩ := h
  exact ⟨ys, hO.below hb, hy, hb1.trans (hb.mono hb1.size)⟩
theorem UptoV.next {w wr : World} {L : List V} {n i : Nat} {x : V} (h : UptoV w L n i wr) (hx : L[i]? = some x) (hi : i < n) :
    UptoV w L n (i + 1) ((wr.setCell ⟨w.heap.size, i * 2, none⟩ (.int .i64 x.kind)).setCell ⟨w.heap.size, i * 2 + 1, none⟩ (.int .i64 x.n)) := by
  obtain ⟨ys, hO, hy, hb⟩ := h
  obtain ⟨h1, h2⟩ := hO.put (i := i) rfl hi x
  refine ⟨_, h1, fun j hj => ?_, h2.below hb (Nat.le_refl _) hb.size⟩
  rw [List.getElem?_set]
  by_cases e : i = j
  · subst e
    rw [if_pos rfl, if_pos (by have := hO.1; omega), hx]
  · rw [if_neg e]
    exact hy j (by omega)
theorem UptoV.ret {w wr : World} {L : List V} {n : Nat} (h : UptoV w L n n wr) (hn : L.length = n) : FFresh layV 31 L w (.returned (.slice (some ⟨w.heap.size, 0, none⟩) n n)) wr := by
  obtain ⟨ys, hO, hy, hb⟩ := h
  have e : ys = L := by
    apply List.ext_getElem?
    intro j
    by_cases hj : j < n
    · exact hy j hj
    · rw [List.getElem?_eq_none (by have := hO.1; omega), List.getElem?_eq_none (by omega)]
  subst e
  have hs := hO.2.2.1
  exact FFresh.ret (hO.more hs (Nat.le_refl _)) hb
end Go.Proofs.Ytmeacgpebpfpbaa
