/- The law's helpers over []uint8: copied anew, held against one another, marked, looked at again. -/
import Derived.Test.YtkbenfnmigkclaaKit
import Derived.Test.YtkbenfnmigkclaaProg
import Derived.LoopTactic
import Derived.Lib.Hide
import Derived.Deep.QuietTactic
import Derived.BigQuiet
namespace Go.Proofs.Ytkbenfnmigkclaa
open Go.RowKit
theorem infoB : (Try.prog.info? 5).map (fun i => (i.zero, i.size, i.bytes)) = some (some (.int .u8 0), 1, 1) := by kernel_rfl

/-- The first i are copied. -/
def UptoB (w : World) (zs : List Int) (n i : Nat) (wr : World) : Prop :=
  ∃ ys : List Int, Own .u8 5 w.heap.size (w.heap.size + 1) wr (some ⟨w.heap.size, 0, none⟩) n n ys ∧ (∀ j, j < i → ys[j]? = zs[j]?) ∧ Below w.heap.size w wr
theorem UptoB.next {w wr : World} {zs : List Int} {n i : Nat} {z : Int} (h : UptoB w zs n i wr) (hz : zs[i]? = some z) (hi : i < n) : UptoB w zs n (i + 1) (wr.setCell ⟨w.heap.size, i, none⟩ (.int .u8 z)) := by
  obtain ⟨ys, hO, hy, hb⟩ := h
  obtain ⟨h1, h2⟩ := hO.store (i := i) rfl z
  refine ⟨_, h1, fun j hj => ?_, h2.below hb (Nat.le_refl _) hb.size⟩
  rw [List.getElem?_set]
  by_cases e : i = j
  · subst e
    rw [if_pos rfl, if_pos (by have := hO.1; omega), hz]
  · rw [if_neg e]
    exact hy j (by omega)
theorem UptoB.ret {w wr : World} {zs : List Int} {n : Nat} (h : UptoB w zs n n wr) (hn : zs.length = n) : Fresh .u8 5 zs w (.returned (.slice (some ⟨w.heap.size, 0, none⟩) n n)) wr := by
  obtain ⟨ys, hO, hy, hb⟩ := h
  have e : ys = zs := by
    apply List.ext_getElem?
    intro j
    by_cases hj : j < n
    · exact hy j hj
    · rw [List.getElem?_eq_none (by have := hO.1; omega), List.getElem?_eq_none (by omega)]
  subst e
  have hs := hO.2.2.1
  exact Fresh.ret (hO.more hs (Nat.le_refl _)) hb
set_option maxHeartbeats 1000000 in
theorem toB (A : Option Addr) (n c : Nat) (zs : List Int) (w : World) (h : Rz .u8 w A n zs) (hn : n ≤ 1099511627776) : Calls Try.prog 32 #[.slice A n c] w (Fresh .u8 5 zs w) := by
  obtain ⟨i0, hi, hz0, hz1, hz2⟩ := info_parts infoB
  have H := Lib.hid h
  clear h
  go_enter Try.func32, Try.ntmps32
  go_wp2_with (refine wpList_make_full _ rfl _ _ 22 rfl w.heap.size 5 i0 (.int .u8 0) 1 Try.underlying22 hi hz0 hz1 _ _ (n : Int) (n : Int) n rfl rfl rfl rfl (by rw [hz2]; omega) (by unfold maxLen; omega) (Nat.le_refl _) ?_)
  intro w1 hown hgrow
  have hU : UptoB w zs n 0 w1 := by
    have hb := (Below.refl w.heap.size w).grown hgrow (Nat.le_refl _) (fun k h => by cases h)
    refine ⟨List.replicate n 0, ⟨by simp, ?_, ?_, ?_⟩, fun j hj => by omega, hb⟩
    · have e : (List.replicate n (0 : Int)).map (Value.int .u8) = (madeCells #[.int .u8 0] n).toList := by
        rw [toList_madeCells_one]; simp
      rw [e]; exact hown
    · have := (hown.lt w.heap.size rfl).2; omega
    · intro a e
      obtain rfl := Option.some.inj e
      simp
  clear hown hgrow
  go_wp2
  go_loopw [4] (fun iv wr => ∃ i : Nat, i ≤ n ∧ iv = .int .i64 i ∧ UptoB w zs n i wr) (fun iv _ => n - (intOf iv).toNat)
  case atStart => exact ⟨0, Nat.zero_le _, rfl, hU⟩
  case round =>
    obtain ⟨i, hin, rfl, hUr⟩ := hrel
    clear hU
    by_cases hlt : i < n
    · have hUr' := Lib.hid hUr
      obtain ⟨ys, hO, -, hb⟩ := hUr
      obtain ⟨b, off, z, rfl, hbw, hzi, hcell⟩ := (H.out.below hb).at_ hlt
      obtain ⟨g, y, hg, -, -, -, hcell2, hfz⟩ := hO.slot hlt
      injection hg with hg
      injection hg with hg
      subst hg
      have hZ := Lib.hid hzi
      have hB := Lib.hid hb
      have hOO := Lib.hid hO
      clear hzi hb hO
      go_wp2
      go_roundw
      case rel => exact ⟨i + 1, by omega, by go_num, hUr'.out.next hZ.out hlt⟩
      case measure => simp [intOf]; omega
    · have : i = n := by omega
      subst this
      have hUr' := Lib.hid hUr
      clear hUr
      go_wp2
      go_ret
      exact hUr'.out.ret H.out.1

theorem zs_ext {zs ys : List Int} {n : Nat} (h : zs.length = n) (h' : ys.length = n) (hs : ∀ j, j < n → zs[j]? = ys[j]?) : zs = ys := by
  apply List.ext_getElem?
  intro j
  by_cases hj : j < n
  · exact hs j hj
  · rw [List.getElem?_eq_none (by omega), List.getElem?_eq_none (by omega)]
set_option maxHeartbeats 1000000 in
/-- Two slices that read alike. -/
theorem eqB (A A' : Option Addr) (n n' c c' : Nat) (zs zs' : List Int) (w : World) (h : Rz .u8 w A n zs) (h' : Rz .u8 w A' n' zs') (he : zs = zs') (hn : n ≤ 1099511627776) :
    Calls Try.prog 34 #[.slice A n c, .slice A' n' c'] w (GivesBool true w) := by
  obtain rfl : n = n' := by rw [← h.1, ← h'.1, he]
  subst he
  have H := Lib.hid h
  have H' := Lib.hid h'
  clear h h'
  go_enter Try.func34, Try.ntmps34
  go_wp2
  go_loopw [5] (fun iv wr => ∃ i : Nat, i ≤ n ∧ iv = .int .i64 i ∧ Below w.heap.size w wr) (fun iv _ => n - (intOf iv).toNat)
  case atStart => exact ⟨0, Nat.zero_le _, rfl, Below.refl _ _⟩
  case round =>
    obtain ⟨i, hin, rfl, hb⟩ := hrel
    by_cases hlt : i < n
    · obtain ⟨b, off, z, rfl, hbw, hzi, hcell⟩ := (H.out.below hb).at_ hlt
      obtain ⟨b', off', z', rfl, hbw', hzi', hcell'⟩ := (H'.out.below hb).at_ hlt
      obtain rfl : z = z' := by rw [hzi] at hzi'; exact Option.some.inj hzi'
      have hB := Lib.hid hb
      clear hzi hzi' hb
      go_wp2
      go_quiet (fail)
      go_wp2
      go_roundw
      case rel => exact ⟨i + 1, by omega, by go_num, below_drewN hB.out _⟩
      case measure => simp [intOf]; omega
    · have hB := Lib.hid hb
      clear hb
      go_wp2
      go_ret
      exact GivesBool.ret hB.out
/-- The marks from m on. -/
def marksB (m : Int) (n : Nat) : List Int := (List.range n).map fun (i : Nat) => (m + (i : Int)) % 256
theorem marksB_len (m : Int) (n : Nat) : (marksB m n).length = n := by simp [marksB]
theorem marksB_at (m : Int) (n i : Nat) (h : i < n) : (marksB m n)[i]? = some ((m + (i : Int)) % 256) := by simp [marksB, h]
/-- The first i are marked. -/
def MarkB (lo hi : Nat) (w : World) (A : Option Addr) (n c : Nat) (m : Int) (i : Nat) (wr : World) : Prop :=
  ∃ ys : List Int, Own .u8 5 lo hi wr A n c ys ∧ (∀ j, j < i → ys[j]? = (marksB m n)[j]?) ∧ Step lo hi w wr
theorem MarkB.next {lo hi : Nat} {w wr : World} {g n c : Nat} {m : Int} {i : Nat} (h : MarkB lo hi w (some ⟨g, 0, none⟩) n c m i wr) (hi' : i < n) : MarkB lo hi w (some ⟨g, 0, none⟩) n c m (i + 1) (wr.setCell ⟨g, i, none⟩ (.int .u8 ((m + (i : Int)) % 256))) := by
  obtain ⟨ys, hO, hy, hb⟩ := h
  obtain ⟨h1, h2⟩ := hO.store (i := i) rfl ((m + (i : Int)) % 256)
  refine ⟨_, h1, fun j hj => ?_, hb.trans h2⟩
  rw [List.getElem?_set]
  by_cases e : i = j
  · subst e
    rw [if_pos rfl, if_pos (by have := hO.1; omega), marksB_at _ _ _ hi']
  · rw [if_neg e]
    exact hy j (by omega)
/-- Marked. -/
def MarkedB (lo hi : Nat) (w : World) (A : Option Addr) (n c : Nat) (m : Int) (e : Ending) (w' : World) : Prop :=
  e = .returned (.int .i64 (m + (n : Int))) ∧ Own .u8 5 lo hi w' A n c (marksB m n) ∧ Step lo hi w w'
theorem MarkB.ret {lo hi : Nat} {w wr : World} {A : Option Addr} {n c : Nat} {m : Int} (h : MarkB lo hi w A n c m n wr) : MarkedB lo hi w A n c m (.returned (.int .i64 (m + (n : Int)))) wr := by
  obtain ⟨ys, hO, hy, hb⟩ := h
  obtain rfl : ys = marksB m n := zs_ext hO.1 (marksB_len m n) hy
  exact ⟨rfl, hO, hb⟩
set_option maxHeartbeats 1000000 in
theorem markB (lo hi : Nat) (A : Option Addr) (n c : Nat) (m : Int) (zs : List Int) (w : World) (h : Own .u8 5 lo hi w A n c zs) (h0 : 0 ≤ m) (h1 : m ≤ 1099511627776) (hn : n ≤ 1099511627776) :
    Calls Try.prog 35 #[.slice A n c, .int .i64 m] w (MarkedB lo hi w A n c m) := by
  have hM : MarkB lo hi w A n c m 0 w := ⟨zs, h, fun j hj => by omega, Step.refl _ _ _⟩
  clear h
  go_enter Try.func35, Try.ntmps35
  go_wp2
  go_loopw [1, 5] (fun kv iv wr => ∃ i : Nat, i ≤ n ∧ iv = .int .i64 i ∧ kv = .int .i64 (m + (i : Int)) ∧ MarkB lo hi w A n c m i wr) (fun _ iv _ => n - (intOf iv).toNat)
  case atStart => exact ⟨0, Nat.zero_le _, rfl, by simp, hM⟩
  case round =>
    obtain ⟨i, hin, rfl, rfl, hMr⟩ := hrel
    clear hM
    by_cases hlt : i < n
    · have hM' := Lib.hid hMr
      obtain ⟨ys, hO, -, -⟩ := hMr
      obtain ⟨g, y, rfl, -, -, -, hcell, hfz⟩ := hO.slot hlt
      clear hO
      go_wp2
      go_roundw
      case rel => exact ⟨i + 1, by omega, by go_num, by go_num, hM'.out.next hlt⟩
      case measure => simp [intOf]; omega
    · have : i = n := by omega
      subst this
      have hM' := Lib.hid hMr
      clear hMr
      go_wp2
      go_ret
      exact hM'.out.ret
set_option maxHeartbeats 1000000 in
theorem heldB (A : Option Addr) (n c : Nat) (m : Int) (w : World) (h : Rz .u8 w A n (marksB m n)) (h0 : 0 ≤ m) (h1 : m ≤ 1099511627776) (hn : n ≤ 1099511627776) :
    Calls Try.prog 39 #[.slice A n c, .int .i64 m] w (GivesInt (m + (n : Int)) w) := by
  have H := Lib.hid h
  clear h
  go_enter Try.func39, Try.ntmps39
  go_wp2
  go_loopw [1, 5] (fun kv iv wr => ∃ i : Nat, i ≤ n ∧ iv = .int .i64 i ∧ kv = .int .i64 (m + (i : Int)) ∧ Below w.heap.size w wr) (fun _ iv _ => n - (intOf iv).toNat)
  case atStart => exact ⟨0, Nat.zero_le _, rfl, by simp, Below.refl _ _⟩
  case round =>
    obtain ⟨i, hin, rfl, rfl, hb⟩ := hrel
    by_cases hlt : i < n
    · obtain ⟨b, off, z, rfl, hbw, hzi, hcell⟩ := (H.out.below hb).at_ hlt
      obtain rfl : (m + (i : Int)) % 256 = z := by rw [marksB_at _ _ _ hlt] at hzi; exact Option.some.inj hzi
      have hB := Lib.hid hb
      clear hzi hb
      go_wp2
      all_goals
        go_roundw
        case rel => exact ⟨i + 1, by omega, by go_num, by go_num, by first | exact hB.out | exact below_drewN hB.out _⟩
        case measure => simp [intOf]; omega
    · have : i = n := by omega
      subst this
      have hB := Lib.hid hb
      clear hb
      go_wp2
      go_ret
      exact GivesInt.ret rfl hB.out
end Go.Proofs.Ytkbenfnmigkclaa
