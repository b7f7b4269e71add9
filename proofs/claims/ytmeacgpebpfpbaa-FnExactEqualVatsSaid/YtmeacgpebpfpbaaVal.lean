/- Values: the record; what the laws do with one, and with slices of them. -/
import Derived.Test.YtmeacgpebpfpbaaBase
import Derived.LoopTactic
import Derived.Lib.Hide
import Derived.Deep.QuietTactic
import Derived.BigQuiet
import Derived.Deep.RegionWith
namespace Go.Proofs.Ytmeacgpebpfpbaa
open Go.RowKit
structure V where
  kind : Int
  n : Int
def layV : Lay V := ⟨fun v => [.int .i64 v.kind, .int .i64 v.n], 2, by omega, fun _ => rfl, fun a u hu => by
  rcases List.mem_cons.1 hu with rfl | hu
  · rfl
  · obtain rfl := List.mem_singleton.1 hu
    rfl⟩
/-- A record comes back; what was there stands. -/
def GivesV (v : V) (w : World) (e : Ending) (w' : World) : Prop := e = .returned (.agg #[.int .i64 v.kind, .int .i64 v.n]) ∧ Below w.heap.size w w'
theorem GivesV.ret {v : V} {a b : Int} {w w' : World} (h1 : a = v.kind) (h2 : b = v.n) (hb : Below w.heap.size w w') : GivesV v w (.returned (.agg #[.int .i64 a, .int .i64 b])) w' := ⟨by rw [h1, h2], hb⟩
set_option maxHeartbeats 1000000 in
theorem toV (v : V) (w : World) : Calls Try.prog 33 #[.agg #[.int .i64 v.kind, .int .i64 v.n]] w (GivesV v w) := by
  go_enter Try.func33, Try.ntmps33
  go_wp2
  refine bodyPost_ret (v := .agg #[.int .i64 v.kind, .int .i64 v.n]) (by simp [results, Try.results33, go_sem]) rfl ?_
  exact GivesV.ret rfl rfl ((((Below.refl _ _).alloc (Nat.le_refl _) _).alloc (by simp) _).alloc (by simp; omega) _)
set_option maxHeartbeats 1000000 in
theorem eqV_yes (v : V) (w : World) : Calls Try.prog 34 #[.agg #[.int .i64 v.kind, .int .i64 v.n], .agg #[.int .i64 v.kind, .int .i64 v.n]] w (GivesBool true w) := by
  go_enter Try.func34, Try.ntmps34
  go_wp2
  go_ret
  exact GivesBool.ret (((Below.refl _ _).alloc (Nat.le_refl _) _).alloc (by simp) _)
theorem V.ext_ {a b : V} (h1 : a.kind = b.kind) (h2 : a.n = b.n) : a = b := by
  cases a; cases b; simp_all
theorem infoV : (Try.prog.info? 31).map (fun i => (i.zero, i.size, i.bytes)) = some (some (.agg #[.int .i64 0, .int .i64 0]), 2, 16) := by kernel_rfl
theorem flat_zero (n : Nat) : layV.flat (List.replicate n ⟨0, 0⟩) = (madeCells #[.int .i64 0, .int .i64 0] (n * 2)).toList := by
  apply List.ext_getElem?
  intro j
  by_cases hj : j < n * 2
  · have e : j = j / 2 * 2 + j % 2 := by omega
    have hq : (List.replicate n (⟨0, 0⟩ : V))[j / 2]? = some ⟨0, 0⟩ := by rw [List.getElem?_replicate, if_pos (by omega)]
    have h1 := layV.flat_at _ (j / 2) (j % 2) _ hq (show j % 2 < 2 by omega)
    rw [show layV.size = 2 from rfl, ← e] at h1
    rw [h1]
    have hz : ∀ k, k < 2 → (layV.cells ⟨0, 0⟩)[k]? = some (.int .i64 0) := fun k hk => by
      rcases (by omega : k = 0 ∨ k = 1) with rfl | rfl <;> rfl
    rw [hz _ (by omega)]
    have hj2 : j < (madeCells #[.int .i64 0, .int .i64 0] (n * 2)).size := by rw [size_madeCells]; exact hj
    rw [Array.getElem?_toList, Array.getElem?_eq_getElem hj2]
    congr 1
    simp only [madeCells]
    rcases (by omega : j % 2 = 0 ∨ j % 2 = 1) with h | h <;> simp [h]
  · rw [List.getElem?_eq_none (by rw [layV.flat_len, List.length_replicate]; show n * 2 ≤ j; omega), List.getElem?_eq_none (by rw [Array.length_toList, size_madeCells]; omega)]
/-- The first i are copied. -/
def UptoV (w : World) (L : List V) (n i : Nat) (wr : World) : Prop :=
  ∃ ys : List V, FO layV 31 w.heap.size (w.heap.size + 1) wr (some ⟨w.heap.size, 0, none⟩) n n ys ∧ (∀ j, j < i → ys[j]? = L[j]?) ∧ Below w.heap.size w wr
theorem UptoV.below {w wr w2 : World} {L : List V} {n i : Nat} (h : UptoV w L n i wr) (hb : Below wr.heap.size wr w2) : UptoV w L n i w2 := by
  obtain ⟨ys, hO, hy, hb1⟩ := h
  exact ⟨ys, hO.below hb, hy, hb1.trans (hb.mono hb1.size)⟩
theorem UptoV.next {w wr : World} {L : List V} {n i : Nat} {x : V} (h : UptoV w L n i wr) (hx : L[i]? = some x) (hi : i < n) :
    UptoV w L n (i + 1) ((wr.setCell ⟨w.heap.size, i * 2, none⟩ (.int .i64 x.kind)).setCell ⟨w.heap.size, i * 2 + 1, none⟩ (.int .i64 x.n)) := by
  obtain ⟨ys, hO, hy, hb⟩ := h
  obtain ⟨h1, h2⟩ := hO.put (i := i) rfl hi x
  refine ⟨_, h1, fun j hj => ?_, h2.below hb (Nat.le_refl _) hb.size⟩
  rw [List.getElem?_set]
  by_cases e : i = j
  · subst e
    rw [if_pos rfl, if_pos (by have := hO.1; omega), hx]
  · rw [if_neg e]
    exact hy j (by omega)
theorem UptoV.ret {w wr : World} {L : List V} {n : Nat} (h : UptoV w L n n wr) (hn : L.length = n) : FFresh layV 31 L w (.returned (.slice (some ⟨w.heap.size, 0, none⟩) n n)) wr := by
  obtain ⟨ys, hO, hy, hb⟩ := h
  have e : ys = L := by
    apply List.ext_getElem?
    intro j
    by_cases hj : j < n
    · exact hy j hj
    · rw [List.getElem?_eq_none (by have := hO.1; omega), List.getElem?_eq_none (by omega)]
  subst e
  have hs := hO.2.2.1
  exact FFresh.ret (hO.more hs (Nat.le_refl _)) hb
set_option maxRecDepth 100000 in
set_option maxHeartbeats 1000000 in
theorem toVS (A : Option Addr) (n c : Nat) (L : List V) (w : World) (h : FR layV w A n L) (hn : n ≤ 1099511627776) : Calls Try.prog 99 #[.slice A n c] w (FFresh layV 31 L w) := by
  obtain ⟨i0, hi, hz0, hz1, hz2⟩ := info_parts infoV
  have H := Lib.hid h
  clear h
  go_enter Try.func99, Try.ntmps99
  go_wp2_with (refine wpList_make_full _ rfl _ _ 35 rfl w.heap.size 31 i0 (.agg #[.int .i64 0, .int .i64 0]) 2 Try.underlying35 hi hz0 hz1 _ _ (n : Int) (n : Int) n rfl rfl rfl rfl (by rw [hz2]; omega) (by unfold maxLen; omega) (Nat.le_refl _) ?_)
  intro w1 hown hgrow
  have hU : UptoV w L n 0 w1 := by
    have hb := (Below.refl w.heap.size w).grown hgrow (Nat.le_refl _) (fun k h => by cases h)
    refine ⟨List.replicate n ⟨0, 0⟩, ⟨by simp, ?_, ?_, ?_⟩, fun j hj => by omega, hb⟩
    · rw [flat_zero]; exact hown
    · have := (hown.lt w.heap.size rfl).2; omega
    · intro a e
      obtain rfl := Option.some.inj e
      simp
  clear hown hgrow
  go_wp2
  go_loopw [4] (fun iv wr => ∃ i : Nat, i ≤ n ∧ iv = .int .i64 i ∧ UptoV w L n i wr) (fun iv _ => n - (intOf iv).toNat)
  case atStart => exact ⟨0, Nat.zero_le _, rfl, hU⟩
  case round =>
    obtain ⟨i, hin, rfl, hUr⟩ := hrel
    clear hU
    by_cases hlt : i < n
    · have hUr' := Lib.hid hUr
      obtain ⟨ys, hO, -, hb⟩ := hUr
      obtain ⟨b, off, x, rfl, hbw, hzi, hcell⟩ := (H.out.below hb).at_ hlt
      have hc0 : wr.cell? ⟨b, off + i * 2, none⟩ = some (.int .i64 x.kind) := hcell 0 _ rfl
      have hc1 : wr.cell? ⟨b, off + i * 2 + 1, none⟩ = some (.int .i64 x.n) := hcell 1 _ rfl
      have hZ := Lib.hid hzi
      have hB := Lib.hid hb
      have hOO := Lib.hid hO
      clear hzi hb hO hcell
      go_wp2_with (
        with_reducible refine (toV x _).mono ?_
        rintro e w2 ⟨rfl, hb2⟩
        have hO2 := hOO.out.below hb2
        obtain ⟨g2, y2, hA2, -, -, -, hcs, hfs⟩ := hO2.slot hlt
        injection hA2 with hA2
        injection hA2 with hA2
        subst hA2
        have f0 := hfs (i * 2)
        have f1 := hfs (i * 2 + 1)
        have d0 : w2.cell? ⟨w.heap.size, i * 2, none⟩ = some (.int .i64 y2.kind) := hcs 0 _ rfl
        have d1 : w2.cell? ⟨w.heap.size, i * 2 + 1, none⟩ = some (.int .i64 y2.n) := hcs 1 _ rfl
        have HN := Lib.hid (UptoV.next (hUr'.out.below hb2) hZ.out hlt)
        clear hO2 hcs hfs hb2)
      go_roundw
      case rel => exact ⟨i + 1, by omega, by go_num, HN.out⟩
      case measure => simp [intOf]; omega
    · obtain rfl : i = n := by omega
      have hUr' := Lib.hid hUr
      clear hUr
      go_wp2_with fail
      go_ret
      exact hUr'.out.ret H.out.1
set_option maxRecDepth 100000 in
set_option maxHeartbeats 1000000 in
/-- Two slices that read alike. -/
theorem eqVS (A A' : Option Addr) (n n' c c' : Nat) (L L' : List V) (w : World) (h : FR layV w A n L) (h' : FR layV w A' n' L') (he : L = L') (hn : n ≤ 1099511627776) :
    Calls Try.prog 101 #[.slice A n c, .slice A' n' c'] w (GivesBool true w) := by
  obtain rfl : n = n' := by rw [← h.1, ← h'.1, he]
  subst he
  have H := Lib.hid h
  have H' := Lib.hid h'
  clear h h'
  go_enter Try.func101, Try.ntmps101
  go_wp2
  go_loopw [5] (fun iv wr => ∃ i : Nat, i ≤ n ∧ iv = .int .i64 i ∧ Below w.heap.size w wr) (fun iv _ => n - (intOf iv).toNat)
  case atStart => exact ⟨0, Nat.zero_le _, rfl, Below.refl _ _⟩
  case round =>
    obtain ⟨i, hin, rfl, hb⟩ := hrel
    by_cases hlt : i < n
    · obtain ⟨b, off, x, rfl, hbw, hzi, hcell⟩ := (H.out.below hb).at_ hlt
      obtain ⟨b', off', x', rfl, hbw', hzi', hcell'⟩ := (H'.out.below hb).at_ hlt
      obtain rfl : x = x' := by rw [hzi] at hzi'; exact Option.some.inj hzi'
      have hc0 : wr.cell? ⟨b, off + i * 2, none⟩ = some (.int .i64 x.kind) := hcell 0 _ rfl
      have hc1 : wr.cell? ⟨b, off + i * 2 + 1, none⟩ = some (.int .i64 x.n) := hcell 1 _ rfl
      have hc0' : wr.cell? ⟨b', off' + i * 2, none⟩ = some (.int .i64 x.kind) := hcell' 0 _ rfl
      have hc1' : wr.cell? ⟨b', off' + i * 2 + 1, none⟩ = some (.int .i64 x.n) := hcell' 1 _ rfl
      have HB := Lib.hid hb
      clear hzi hzi' hb hcell hcell'
      go_wp2_with fail
      go_region_with (
        go_at_call 34
        refine (eqV_yes x _).mono ?_
        rintro e w2 ⟨rfl, hb2⟩
        have HB2 : Hid (Below w.heap.size w w2) := Lib.hid (HB.out.drew.trans (hb2.mono HB.out.size))
        clear hb2)
      all_goals (
        go_wp2_with fail
        go_roundw
        case rel => exact ⟨i + 1, by omega, by go_num, HB2.out⟩
        case measure => simp [intOf]; omega)
    · have HB := Lib.hid hb
      clear hb
      go_wp2
      go_ret
      exact GivesBool.ret HB.out
end Go.Proofs.Ytmeacgpebpfpbaa
