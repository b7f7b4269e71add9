/- The law's helpers over []int: copied anew, held against one another, marked, looked at again. -/
import Derived.Test.YtamnalkoacpcoaaSlB
import Derived.Test.YtamnalkoacpcoaaProg
import Derived.LoopTactic
import Derived.Lib.Hide
import Derived.Deep.QuietTactic
import Derived.BigQuiet
namespace Go.Proofs.Ytamnalkoacpcoaa
open Go.RowKit
theorem infoI : (Try.prog.info? 3).map (fun i => (i.zero, i.size, i.bytes)) = some (some (.int .i64 0), 1, 8) := by kernel_rfl

/-- The first i are copied. -/
def UptoI (w : World) (zs : List Int) (n i : Nat) (wr : World) : Prop :=
  ∃ ys : List Int, Own .i64 3 w.heap.size (w.heap.size + 1) wr (some ⟨w.heap.size, 0, none⟩) n n ys ∧ (∀ j, j < i → ys[j]? = zs[j]?) ∧ Below w.heap.size w wr
theorem UptoI.next {w wr : World} {zs : List Int} {n i : Nat} {z : Int} (h : UptoI w zs n i wr) (hz : zs[i]? = some z) (hi : i < n) : UptoI w zs n (i + 1) (wr.setCell ⟨w.heap.size, i, none⟩ (.int .i64 z)) := by
  obtain ⟨ys, hO, hy, hb⟩ := h
  obtain ⟨h1, h2⟩ := hO.store (i := i) rfl z
  refine ⟨_, h1, fun j hj => ?_, h2.below hb (Nat.le_refl _) hb.size⟩
  rw [List.getElem?_set]
  by_cases e : i = j
  · subst e
    rw [if_pos rfl, if_pos (by have := hO.1; omega), hz]
  · rw [if_neg e]
    exact hy j (by omega)
theorem UptoI.ret {w wr : World} {zs : List Int} {n : Nat} (h : UptoI w zs n n wr) (hn : zs.length = n) : Fresh .i64 3 zs w (.returned (.slice (some ⟨w.heap.size, 0, none⟩) n n)) wr := by
  obtain ⟨ys, hO, hy, hb⟩ := h
  have e : ys = zs := by
    apply List.ext_getElem?
    intro j
    by_cases hj : j < n
    · exact hy j hj
    · rw [List.getElem?_eq_none (by have := hO.1; omega), List.getElem?_eq_none (by omega)]
  subst e
  have hs := hO.2.2.1
  exact Fresh.ret (hO.more hs (Nat.le_refl _)) hb
set_option maxHeartbeats 1000000 in
/-- Two slices that read alike. -/
theorem eqI (A A' : Option Addr) (n n' c c' : Nat) (zs zs' : List Int) (w : World) (h : Rz .i64 w A n zs) (h' : Rz .i64 w A' n' zs') (he : zs = zs') (hn : n ≤ 1099511627776) :
    Calls Try.prog 27 #[.slice A n c, .slice A' n' c'] w (GivesBool true w) := by
  obtain rfl : n = n' := by rw [← h.1, ← h'.1, he]
  subst he
  have H := Lib.hid h
  have H' := Lib.hid h'
  clear h h'
  go_enter Try.func27, Try.ntmps27
  go_wp2
  go_loopw [5] (fun iv wr => ∃ i : Nat, i ≤ n ∧ iv = .int .i64 i ∧ Below w.heap.size w wr) (fun iv _ => n - (intOf iv).toNat)
  case atStart => exact ⟨0, Nat.zero_le _, rfl, Below.refl _ _⟩
  case round =>
    obtain ⟨i, hin, rfl, hb⟩ := hrel
    by_cases hlt : i < n
    · obtain ⟨b, off, z, rfl, hbw, hzi, hcell⟩ := (H.out.below hb).at_ hlt
      obtain ⟨b', off', z', rfl, hbw', hzi', hcell'⟩ := (H'.out.below hb).at_ hlt
      obtain rfl : z = z' := by rw [hzi] at hzi'; exact Option.some.inj hzi'
      have hB := Lib.hid hb
      clear hzi hzi' hb
      go_wp2
      go_quiet (fail)
      go_wp2
      go_roundw
      case rel => exact ⟨i + 1, by omega, by go_num, below_drewN hB.out _⟩
      case measure => simp [intOf]; omega
    · have hB := Lib.hid hb
      clear hb
      go_wp2
      go_ret
      exact GivesBool.ret hB.out
/-- The marks from m on. -/
def marksI (m : Int) (n : Nat) : List Int := (List.range n).map fun (i : Nat) => m + (i : Int)
theorem marksI_len (m : Int) (n : Nat) : (marksI m n).length = n := by simp [marksI]
theorem marksI_at (m : Int) (n i : Nat) (h : i < n) : (marksI m n)[i]? = some (m + (i : Int)) := by simp [marksI, h]
/-- The first i are marked. -/
def MarkI (lo hi : Nat) (w : World) (A : Option Addr) (n c : Nat) (m : Int) (i : Nat) (wr : World) : Prop :=
  ∃ ys : List Int, Own .i64 3 lo hi wr A n c ys ∧ (∀ j, j < i → ys[j]? = (marksI m n)[j]?) ∧ Step lo hi w wr
theorem MarkI.next {lo hi : Nat} {w wr : World} {g n c : Nat} {m : Int} {i : Nat} (h : MarkI lo hi w (some ⟨g, 0, none⟩) n c m i wr) (hi' : i < n) : MarkI lo hi w (some ⟨g, 0, none⟩) n c m (i + 1) (wr.setCell ⟨g, i, none⟩ (.int .i64 (m + (i : Int)))) := by
  obtain ⟨ys, hO, hy, hb⟩ := h
  obtain ⟨h1, h2⟩ := hO.store (i := i) rfl (m + (i : Int))
  refine ⟨_, h1, fun j hj => ?_, hb.trans h2⟩
  rw [List.getElem?_set]
  by_cases e : i = j
  · subst e
    rw [if_pos rfl, if_pos (by have := hO.1; omega), marksI_at _ _ _ hi']
  · rw [if_neg e]
    exact hy j (by omega)
/-- Marked. -/
def MarkedI (lo hi : Nat) (w : World) (A : Option Addr) (n c : Nat) (m : Int) (e : Ending) (w' : World) : Prop :=
  e = .returned (.int .i64 (m + (n : Int))) ∧ Own .i64 3 lo hi w' A n c (marksI m n) ∧ Step lo hi w w'
theorem MarkI.ret {lo hi : Nat} {w wr : World} {A : Option Addr} {n c : Nat} {m : Int} (h : MarkI lo hi w A n c m n wr) : MarkedI lo hi w A n c m (.returned (.int .i64 (m + (n : Int)))) wr := by
  obtain ⟨ys, hO, hy, hb⟩ := h
  obtain rfl : ys = marksI m n := zs_ext hO.1 (marksI_len m n) hy
  exact ⟨rfl, hO, hb⟩
set_option maxHeartbeats 1000000 in
theorem markI (lo hi : Nat) (A : Option Addr) (n c : Nat) (m : Int) (zs : List Int) (w : World) (h : Own .i64 3 lo hi w A n c zs) (h0 : 0 ≤ m) (h1 : m ≤ 1099511627776) (hn : n ≤ 1099511627776) :
    Calls Try.prog 28 #[.slice A n c, .int .i64 m] w (MarkedI lo hi w A n c m) := by
  have hM : MarkI lo hi w A n c m 0 w := ⟨zs, h, fun j hj => by omega, Step.refl _ _ _⟩
  clear h
  go_enter Try.func28, Try.ntmps28
  go_wp2
  go_loopw [1, 5] (fun kv iv wr => ∃ i : Nat, i ≤ n ∧ iv = .int .i64 i ∧ kv = .int .i64 (m + (i : Int)) ∧ MarkI lo hi w A n c m i wr) (fun _ iv _ => n - (intOf iv).toNat)
  case atStart => exact ⟨0, Nat.zero_le _, rfl, by simp, hM⟩
  case round =>
    obtain ⟨i, hin, rfl, rfl, hMr⟩ := hrel
    clear hM
    by_cases hlt : i < n
    · have hM' := Lib.hid hMr
      obtain ⟨ys, hO, -, -⟩ := hMr
      obtain ⟨g, y, rfl, -, -, -, hcell, hfz⟩ := hO.slot hlt
      clear hO
      go_wp2
      go_roundw
      case rel => exact ⟨i + 1, by omega, by go_num, by go_num, hM'.out.next hlt⟩
      case measure => simp [intOf]; omega
    · have : i = n := by omega
      subst this
      have hM' := Lib.hid hMr
      clear hMr
      go_wp2
      go_ret
      exact hM'.out.ret
set_option maxHeartbeats 1000000 in
theorem heldI (A : Option Addr) (n c : Nat) (m : Int) (w : World) (h : Rz .i64 w A n (marksI m n)) (h0 : 0 ≤ m) (h1 : m ≤ 1099511627776) (hn : n ≤ 1099511627776) :
    Calls Try.prog 29 #[.slice A n c, .int .i64 m] w (GivesInt (m + (n : Int)) w) := by
  have H := Lib.hid h
  clear h
  go_enter Try.func29, Try.ntmps29
  go_wp2
  go_loopw [1, 5] (fun kv iv wr => ∃ i : Nat, i ≤ n ∧ iv = .int .i64 i ∧ kv = .int .i64 (m + (i : Int)) ∧ Below w.heap.size w wr) (fun _ iv _ => n - (intOf iv).toNat)
  case atStart => exact ⟨0, Nat.zero_le _, rfl, by simp, Below.refl _ _⟩
  case round =>
    obtain ⟨i, hin, rfl, rfl, hb⟩ := hrel
    by_cases hlt : i < n
    · obtain ⟨b, off, z, rfl, hbw, hzi, hcell⟩ := (H.out.below hb).at_ hlt
      obtain rfl : m + (i : Int) = z := by rw [marksI_at _ _ _ hlt] at hzi; exact Option.some.inj hzi
      have hB := Lib.hid hb
      clear hzi hb
      go_wp2
      all_goals
        go_roundw
        case rel => exact ⟨i + 1, by omega, by go_num, by go_num, by first | exact hB.out | exact below_drewN hB.out _⟩
        case measure => simp [intOf]; omega
    · have : i = n := by omega
      subst this
      have hB := Lib.hid hb
      clear hb
      go_wp2
      go_ret
      exact GivesInt.ret rfl hB.out
end Go.Proofs.Ytamnalkoacpcoaa
