/- EqualInts, both sides: one answer. -/
import Derived.Test.YtkbenfnmigkclaaSlI
import Derived.Test.YtkbenfnmigkclaaVar
import Derived.Lib.Hide
import Derived.BigQuiet
namespace Go.Proofs.Ytkbenfnmigkclaa
open Go.RowKit
def eqL (zs zs' : List Int) : Bool := decide (zs = zs')
theorem eqL_yes {zs zs' : List Int} {n : Nat} (h : zs.length = n) (h' : zs'.length = n) (hs : zs.take n = zs'.take n) : true = eqL zs zs' := by
  rw [List.take_of_length_le (by omega), List.take_of_length_le (by omega)] at hs
  simp [eqL, hs]
theorem eqL_len {zs zs' : List Int} {n n' : Nat} (h : zs.length = n) (h' : zs'.length = n') (hn : ¬ n = n') : false = eqL zs zs' := by
  have : ¬ zs = zs' := fun e => hn (by rw [← h, ← h', e])
  simp [eqL, this]
theorem eqL_at {zs zs' : List Int} {i : Nat} {z z' : Int} (h : zs[i]? = some z) (h' : zs'[i]? = some z') (hz : ¬ z = z') : false = eqL zs zs' := by
  have : ¬ zs = zs' := fun e => by subst e; rw [h] at h'; exact hz (Option.some.inj h')
  simp [eqL, this]
theorem take_next {zs zs' : List Int} {i : Nat} {z : Int} (hs : zs.take i = zs'.take i) (h : zs[i]? = some z) (h' : zs'[i]? = some z) : zs.take (i + 1) = zs'.take (i + 1) := by
  have a := (List.getElem?_eq_some_iff.1 h)
  have b := (List.getElem?_eq_some_iff.1 h')
  rw [List.take_succ_eq_append_getElem a.1, List.take_succ_eq_append_getElem b.1, hs, a.2, b.2]
theorem GivesBool.of {b c : Bool} {w w' : World} (h : b = c) (hb : Below w.heap.size w w') : GivesBool c w (.returned (.bool b)) w' := ⟨by rw [h], hb⟩
set_option maxRecDepth 100000 in
set_option maxHeartbeats 1000000 in
theorem specEqI (A A' : Option Addr) (n n' c c' : Nat) (zs zs' : List Int) (w : World) (h : Rz .i64 w A n zs) (h' : Rz .i64 w A' n' zs') (hn : n ≤ 1099511627776) :
    Calls Try.prog 42 #[.slice A n c, .slice A' n' c'] w (GivesBool (eqL zs zs') w) := by
  by_cases hl : n = n'
  · subst hl
    have H := Lib.hid h
    have H' := Lib.hid h'
    clear h h'
    go_enter Try.func42, Try.ntmps42
    go_wp2
    go_loopw [5] (fun iv wr => ∃ i : Nat, i ≤ n ∧ iv = .int .i64 i ∧ zs.take i = zs'.take i ∧ Below w.heap.size w wr) (fun iv _ => n - (intOf iv).toNat)
    case atStart => exact ⟨0, Nat.zero_le _, rfl, rfl, Below.refl _ _⟩
    case round =>
      obtain ⟨i, hin, rfl, hs, hb⟩ := hrel
      by_cases hlt : i < n
      · obtain ⟨b, off, z, rfl, hbw, hzi, hcell⟩ := (H.out.below hb).at_ hlt
        obtain ⟨b', off', z', rfl, hbw', hzi', hcell'⟩ := (H'.out.below hb).at_ hlt
        have HB := Lib.hid hb
        have HS := Lib.hid hs
        have HZ := Lib.hid hzi
        have HZ' := Lib.hid hzi'
        clear hzi hzi' hb hs
        by_cases hz : z = z'
        · subst hz
          go_wp2
          go_quiet (fail)
          go_wp2
          go_roundw
          case rel => exact ⟨i + 1, by omega, by go_num, take_next HS.out HZ.out HZ'.out, below_drewN HB.out _⟩
          case measure => simp [intOf]; omega
        · go_wp2
          go_quiet (fail)
          go_wp2
          go_ret
          exact GivesBool.of (eqL_at HZ.out HZ'.out hz) (below_drewN HB.out _)
      · obtain rfl : i = n := by omega
        have HB := Lib.hid hb
        have HS := Lib.hid hs
        clear hb hs
        go_wp2
        go_ret
        exact GivesBool.of (eqL_yes H.out.1 H'.out.1 HS.out) HB.out
  · have HL := Lib.hid (eqL_len h.1 h'.1 hl)
    clear h h'
    have hl' : ¬ (n : Int) = (n' : Int) := by omega
    go_enter Try.func42, Try.ntmps42
    go_wp2
    go_ret
    exact GivesBool.of HL.out (Below.refl _ _)
set_option maxRecDepth 100000 in
set_option maxHeartbeats 1000000 in
theorem libEqI (A A' : Option Addr) (n n' c c' : Nat) (zs zs' : List Int) (w : World) (h : Rz .i64 w A n zs) (h' : Rz .i64 w A' n' zs') (hn : n ≤ 1099511627776) :
    Calls Try.prog 56 #[.slice A n c, .slice A' n' c'] w (GivesBool (eqL zs zs') w) := by
  by_cases hl : n = n'
  · subst hl
    have H := Lib.hid h
    have H' := Lib.hid h'
    clear h h'
    go_enter Try.func56, Try.ntmps56
    go_wp2
    go_loopw [13] (fun iv wr => ∃ i : Nat, i ≤ n ∧ iv = .int .i64 i ∧ zs.take i = zs'.take i ∧ Below w.heap.size w wr) (fun iv _ => n - (intOf iv).toNat)
    case atStart => exact ⟨0, Nat.zero_le _, rfl, rfl, Below.refl _ _⟩
    case round =>
      obtain ⟨i, hin, rfl, hs, hb⟩ := hrel
      by_cases hlt : i < n
      · obtain ⟨b, off, z, rfl, hbw, hzi, hcell⟩ := (H.out.below hb).at_ hlt
        obtain ⟨b', off', z', rfl, hbw', hzi', hcell'⟩ := (H'.out.below hb).at_ hlt
        have HB := Lib.hid hb
        have HS := Lib.hid hs
        have HZ := Lib.hid hzi
        have HZ' := Lib.hid hzi'
        clear hzi hzi' hb hs
        by_cases hz : z = z'
        · subst hz
          go_wp2
          go_quiet (fail)
          go_wp2
          go_roundw
          case rel => exact ⟨i + 1, by omega, by go_num, take_next HS.out HZ.out HZ'.out, below_drewN HB.out _⟩
          case measure => simp [intOf]; omega
        · go_wp2
          go_quiet (fail)
          go_wp2
          go_ret
          exact GivesBool.of (eqL_at HZ.out HZ'.out hz) (below_drewN HB.out _)
      · obtain rfl : i = n := by omega
        have HB := Lib.hid hb
        have HS := Lib.hid hs
        clear hb hs
        go_wp2
        go_ret
        exact GivesBool.of (eqL_yes H.out.1 H'.out.1 HS.out) HB.out
  · have HL := Lib.hid (eqL_len h.1 h'.1 hl)
    clear h h'
    have hl' : ¬ (n : Int) = (n' : Int) := by omega
    go_enter Try.func56, Try.ntmps56
    go_wp2
    go_ret
    exact GivesBool.of HL.out (Below.refl _ _)
theorem implEqI (A A' : Option Addr) (n n' c c' : Nat) (zs zs' : List Int) (w : World) (h : Rz .i64 w A n zs) (h' : Rz .i64 w A' n' zs') (hn : n ≤ 1099511627776) :
    Calls Try.prog 43 #[.slice A n c, .slice A' n' c'] w (GivesBool (eqL zs zs') w) := by
  have H := Lib.hid h
  have H' := Lib.hid h'
  clear h h'
  go_enter Try.func43, Try.ntmps43
  go_wp2_with fail
  refine (libEqI A A' n n' c c' zs zs' _ H.out H'.out hn).mono ?_
  rintro e w1 ⟨rfl, hB⟩
  go_wp2_with fail
  go_ret
  exact GivesBool.of rfl hB
end Go.Proofs.Ytkbenfnmigkclaa
