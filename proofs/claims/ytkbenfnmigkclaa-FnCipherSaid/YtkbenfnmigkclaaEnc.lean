/- The encoders: copyBytes, putUvarint, AppendUvarint, AppendBytes, EncodeInts, each as the list that comes back. -/
import Derived.Test.YtkbenfnmigkclaaApp
import Derived.Test.YtkbenfnmigkclaaSlB
import Derived.Test.YtkbenfnmigkclaaVar
import Derived.Test.YtkbenfnmigkclaaBits
namespace Go.Proofs.Ytkbenfnmigkclaa
open Go.RowKit

set_option maxHeartbeats 1000000 in
theorem copyBytes (A : Option Addr) (n c : Nat) (zs : List Int) (w : World) (h : Rz .u8 w A n zs) (hn : n ≤ 1099511627776) : Calls Try.prog 48 #[.slice A n c] w (Fresh .u8 5 zs w) := by
  obtain ⟨i0, hi, hz0, hz1, hz2⟩ := info_parts infoB
  have H := Lib.hid h
  clear h
  go_enter Try.func48, Try.ntmps48
  go_wp2_with (at_builtin; refine wpList_append_rz _ rfl _ _ 22 rfl .u8 5 i0 0 1 Try.underlying22 hi hz0 hz1 hz2 w.heap.size (w.heap.size + 1) _ 0 0 [] rfl (Own.none_ .u8 5 w) A n c zs rfl (H.out.alloc _) (by unfold maxLen; omega) (by omega) (by simp) ?_; intro A' c' w' hO hS)
  have hO' : Own .u8 5 w.heap.size w'.heap.size w' A' n c' zs := by simpa using hO
  clear hO
  go_ret
  exact Fresh.ret hO' (hS.below ((Below.refl _ _).alloc (Nat.le_refl _) _) (Nat.le_refl _) (by simp))

theorem Step.low {lo hi : Nat} {w w' : World} (h : Step lo hi w w') (hl : lo ≤ w.heap.size) : Below lo w w' := h.below (Below.refl _ _) (Nat.le_refl _) hl
/-- A slice comes back that owns zs; below lo all stands. -/
def Grew (k : IntKind) (E : TypeId) (lo : Nat) (zs : List Int) (w : World) (e : Ending) (w' : World) : Prop :=
  ∃ A n c, e = .returned (.slice A n c) ∧ Own k E lo w'.heap.size w' A n c zs ∧ Below lo w w'
theorem Grew.ret {k : IntKind} {E : TypeId} {lo : Nat} {zs ys : List Int} {w w' : World} {A : Option Addr} {n c hi : Nat} (h : Own k E lo hi w' A n c ys) (he : ys = zs) (hb : Below lo w w') : Grew k E lo zs w (.returned (.slice A n c)) w' := by
  subst he
  have hs := h.2.2.1
  exact ⟨A, n, c, rfl, h.more hs (Nat.le_refl _), hb⟩
/-- The bytes that a number adds. -/
def encU (x : Int) : List Int := if 0 ≤ x ∧ x ≤ 1000000000000 then putU x.toNat else []
theorem encU_in {n : Nat} (h : n ≤ 1000000000000) : encU (n : Int) = putU n := by rw [encU, if_pos (by omega), Int.toNat_natCast]
theorem encU_out {x : Int} (h : ¬ (0 ≤ x ∧ x ≤ 1000000000000)) : encU x = [] := by rw [encU, if_neg h]
theorem encU_len (x : Int) : (encU x).length ≤ 6 := by
  unfold encU
  split
  · exact (putU_len6 (by omega)).2
  · simp
theorem encU_byt (x : Int) : Byt (encU x) := by
  unfold encU
  split
  · exact putU_byt _
  · exact Byt.nil

/-- Some groups are laid. -/
def Putting (lo : Nat) (zs : List Int) (x : Nat) (w : World) (m : Nat) (A : Option Addr) (n c : Nat) (wr : World) : Prop :=
  ∃ pre : List Int, Own .u8 5 lo wr.heap.size wr A n c (zs ++ pre) ∧ pre ++ putU m = putU x ∧ Below lo w wr
theorem Putting.len {lo x m n c : Nat} {zs : List Int} {w wr : World} {A : Option Addr} (h : Putting lo zs x w m A n c wr) (hx : x ≤ 1000000000000) : n ≤ zs.length + 6 := by
  obtain ⟨pre, hO, hp, -⟩ := h
  have h1 := hO.1
  have h2 := congrArg List.length hp
  have h3 := (putU_len6 hx).2
  simp only [List.length_append] at h1 h2
  omega
theorem Putting.next {lo hi x m n c n' c' : Nat} {zs : List Int} {w wr w' : World} {A A' : Option Addr} {g : Int} {ys : List Int} {o : Obj} (h : Putting lo zs x w m A n c wr) (hm : ¬ m < 128) (hg : g = ((128 + m % 128 : Nat) : Int))
    (hO : Own .u8 5 lo w'.heap.size w' A' n' c' (ys ++ [g])) (hS : Step lo hi (wr.alloc o) w') (hl : lo ≤ wr.heap.size) (hys : ∃ pre, ys = zs ++ pre ∧ pre ++ putU m = putU x) : Putting lo zs x w (m / 128) A' n' c' w' := by
  obtain ⟨pre, rfl, hp⟩ := hys
  obtain ⟨-, -, -, hb⟩ := h
  subst hg
  rw [putU_big hm] at hp
  exact ⟨pre ++ [((128 + m % 128 : Nat) : Int)], by rw [← List.append_assoc]; exact hO, by rw [List.append_assoc]; exact hp, hb.trans (((Below.refl _ _).alloc hl o).trans (hS.low (by simp; omega)))⟩
theorem inR_true (n a b : Int) (w : World) (h1 : a ≤ n) (h2 : n ≤ b) : Calls Try.prog 54 #[.int .i64 n, .int .i64 a, .int .i64 b] w fun e w' => e = .returned (.bool true) ∧ w = w' := by
  go_enter Try.func54, Try.ntmps54
  go_wp2
  go_ret
  exact ⟨rfl, rfl⟩
theorem inR_false (n a b : Int) (w : World) (h1 : ¬ (a ≤ n ∧ n ≤ b)) : Calls Try.prog 54 #[.int .i64 n, .int .i64 a, .int .i64 b] w fun e w' => e = .returned (.bool false) ∧ w = w' := by
  by_cases h : a ≤ n
  · have h2 : ¬ n ≤ b := fun h' => h1 ⟨h, h'⟩
    clear h1
    go_enter Try.func54, Try.ntmps54
    go_wp2
    go_ret
    exact ⟨rfl, rfl⟩
  · clear h1
    go_enter Try.func54, Try.ntmps54
    go_wp2
    go_ret
    exact ⟨rfl, rfl⟩
theorem Grew.fresh {k : IntKind} {E : TypeId} {zs : List Int} {w w1 w' : World} {e : Ending} (h : Grew k E w.heap.size zs w1 e w') (hb : Below w.heap.size w w1) : Fresh k E zs w e w' := by
  obtain ⟨A, n, c, rfl, hO, hb'⟩ := h
  exact Fresh.ret hO (hb.trans hb')
end Go.Proofs.Ytkbenfnmigkclaa
