/- The key stream: a closure that counts in a captured variable, by a contract of its own. -/
import Derived.Test.YtkbenfnmigkclaaHash
import Derived.Test.YtkbenfnmigkclaaDrawB
import Derived.OneCell
namespace Go.Proofs.Ytkbenfnmigkclaa
open Go.RowKit
/-- The byte at place i. -/
def ks (key : Int) (i : Nat) : Int := khash key [(i : Int)] % 256
theorem ks_eq (key : Int) (i : Nat) : khash key [(i : Int)] % 256 = ks key i := rfl
theorem ks_in (key : Int) (i : Nat) : 0 ≤ ks key i ∧ ks key i ≤ 255 := by unfold ks; omega
/-- The two captured variables: the key and the place. -/
def Stream (key : Int) (gk gi i : Nat) (w : World) : Prop :=
  w.heap[gk]? = some (.cells #[.int .i64 key] 3 (0, 0)) ∧ w.heap[gi]? = some (.cells #[.int .i64 (i : Int)] 3 (0, 0)) ∧ gk < gi
theorem Stream.lt {key : Int} {gk gi i : Nat} {w : World} (h : Stream key gk gi i w) : gi < w.heap.size := lt_of_block h.2.1
theorem alloc_new (w : World) (o : Obj) : (w.alloc o).heap[w.heap.size]? = some o := by show (w.heap.push o)[w.heap.size]? = _; simp
theorem alloc_old (w : World) (o : Obj) {b : Nat} (h : b < w.heap.size) : (w.alloc o).heap[b]? = w.heap[b]? := ((Below.refl w.heap.size w).alloc (Nat.le_refl _) o).block b h
/-- A stream comes back. -/
def Opened (key : Int) (w : World) (e : Ending) (w' : World) : Prop :=
  ∃ gk gi, e = .returned (.func (.func 60) #[] #[.pointer (some ⟨gk, 0, none⟩), .pointer (some ⟨gi, 0, none⟩)]) ∧ Stream key gk gi 0 w' ∧ w.heap.size ≤ gk ∧ Below w.heap.size w w'
theorem openStream (key : Int) (w : World) : Calls Try.prog 49 #[.int .i64 key] w (Opened key w) := by
  have hO : Opened key w (.returned (.func (.func 60) #[] #[.pointer (some ⟨w.heap.size, 0, none⟩), .pointer (some ⟨w.heap.size + 1, 0, none⟩)])) ((w.alloc (.cells #[.int .i64 key] 3)).alloc (.cells #[.int .i64 0] 3)) :=
    ⟨_, _, rfl, ⟨by rw [alloc_old _ _ (by simp)]; exact alloc_new _ _, by have := alloc_new (w.alloc (.cells #[.int .i64 key] 3)) (.cells #[.int .i64 0] 3); simpa using this, by omega⟩, Nat.le_refl _, ((Below.refl _ _).alloc (Nat.le_refl _) _).alloc (by simp) _⟩
  have HO := Lib.hid hO
  clear hO
  go_enter Try.func49, Try.ntmps49
  go_wp2
  go_ret
  exact HO.out
/-- A byte comes back, and the place is one further. -/
def Given (key : Int) (gk gi i : Nat) (w : World) (e : Ending) (w' : World) : Prop :=
  e = .returned (.int .u8 (ks key i)) ∧ Stream key gk gi (i + 1) w' ∧ Step gi (gi + 1) w w'
theorem Given.ret {key : Int} {gk gi i : Nat} {w w' : World} {x : Int} (hx : x = ks key i) (hs : Stream key gk gi (i + 1) w') (ht : Step gi (gi + 1) w w') : Given key gk gi i w (.returned (.int .u8 x)) w' := ⟨by rw [hx], hs, ht⟩
theorem Stream.after {key : Int} {gk gi i : Nat} {w : World} (hk : w.heap[gk]? = some (.cells #[.int .i64 key] 3 (0, 0))) (hg : w.heap[gi]? = some (.cells #[.int .i64 (i : Int)] 3 (0, 0))) (hlt : gk < gi) :
    Stream key gk gi (i + 1) (w.setCell ⟨gi, 0, none⟩ (.int .i64 ((i : Int) + 1))) := by
  refine ⟨?_, ?_, hlt⟩
  · rw [Below.heap_setCell _ _ _ _ (by simp; omega)]
    exact hk
  · have := one_setCell hg (u := .int .i64 ((i : Int) + 1))
    rw [this]
    simp
set_option maxHeartbeats 1000000 in
theorem nextByte (key : Int) (gk gi i : Nat) (w : World) (h : Stream key gk gi i w) (hi : i ≤ 1099511627776) :
    Calls Try.prog 60 #[.pointer (some ⟨gk, 0, none⟩), .pointer (some ⟨gi, 0, none⟩)] w (Given key gk gi i w) := by
  obtain ⟨hk, hg, hlt⟩ := h
  have hgs := lt_of_block hg
  have ck := cell_of_one hk
  have cg := cell_of_one hg
  have HK := Lib.hid hk
  have HG := Lib.hid hg
  clear hk hg
  go_enter Try.func60, Try.ntmps60
  go_wp2_with fail
  refine (implKHash key _ 1 1 [(i : Int)] _ (Rz.one _ _ _ _) (by omega)).mono ?_
  rintro e w1 ⟨rfl, hb⟩
  have B1 : Hid (Below w.heap.size w w1) := Lib.hid (((Below.refl _ _).alloc (Nat.le_refl _) (.cells #[.int .i64 (i : Int)] 3)).trans (hb.mono (by simp)))
  clear hb
  have hg1 : w1.heap[gi]? = some (.cells #[.int .i64 (i : Int)] 3 (0, 0)) := (B1.out.block gi hgs).trans HG.out
  have hk1 : w1.heap[gk]? = some (.cells #[.int .i64 key] 3 (0, 0)) := (B1.out.block gk (by omega)).trans HK.out
  have cg1 := cell_of_one hg1
  have fg1 := free_of_one hg1
  have HG1 := Lib.hid hg1
  have HK1 := Lib.hid hk1
  obtain ⟨hk0, hk1'⟩ := khash_in key [(i : Int)]
  have HX := Lib.hid (ks_eq key i)
  clear hg1 hk1 ck cg
  generalize khash key [(i : Int)] = x at *
  go_wp2_with fail
  go_ret
  exact Given.ret HX.out (Stream.after HK1.out HG1.out hlt) ((Turn.setCell (p := ⟨gi, 0, none⟩) (Turn.of_below B1.out : Turn gi w w1) rfl _).step)
end Go.Proofs.Ytkbenfnmigkclaa
