/- Both sides' BytesToInts and DeriveFromString. -/
import Derived.Test.YtkbenfnmigkclaaHash
import Derived.Laws.IdiomStrings
namespace Go.Proofs.Ytkbenfnmigkclaa
open Go.RowKit
/-- The length, then the bytes. -/
def b2i (zs : List Int) : List Int := (zs.length : Int) :: zs
theorem b2i_len (zs : List Int) : (b2i zs).length = zs.length + 1 := by simp [b2i]
/-- The length and the first i bytes are laid. -/
def Intsing (w : World) (zs : List Int) (i : Nat) (A : Option Addr) (n c : Nat) (wr : World) : Prop :=
  Own .i64 3 w.heap.size wr.heap.size wr A n c ((zs.length : Int) :: zs.take i) ∧ n = i + 1 ∧ Below w.heap.size w wr
theorem Intsing.next {w wr w2 : World} {zs : List Int} {i n c n2 c2 hi : Nat} {A A2 : Option Addr} {z : Int} {o : Obj} (h : Intsing w zs i A n c wr) (hz : zs[i]? = some z)
    (hO : Own .i64 3 w.heap.size w2.heap.size w2 A2 n2 c2 (((zs.length : Int) :: zs.take i) ++ [z])) (hS : Step w.heap.size hi (wr.alloc o) w2) (hn : n2 = n + 1) : Intsing w zs (i + 1) A2 n2 c2 w2 := by
  obtain ⟨-, hni, hb⟩ := h
  have hs := hb.size
  have hi' := (List.getElem?_eq_some_iff.1 hz).1
  have hz' := (List.getElem?_eq_some_iff.1 hz).2
  refine ⟨?_, by omega, (hb.alloc hs o).trans (hS.low (by simp; omega))⟩
  rw [List.take_succ_eq_append_getElem hi', hz']
  exact hO
theorem Intsing.ret {w wr : World} {zs : List Int} {i n c : Nat} {A : Option Addr} (h : Intsing w zs i A n c wr) (hi : zs.length = i) : Fresh .i64 3 (b2i zs) w (.returned (.slice A n c)) wr := by
  have h1 := h.1
  rw [List.take_of_length_le (by omega)] at h1
  exact Fresh.ret h1 h.2.2
set_option maxRecDepth 100000 in
set_option maxHeartbeats 1000000 in
theorem implB2I (A : Option Addr) (n c : Nat) (zs : List Int) (w : World) (h : Rz .u8 w A n zs) (hb : Byt zs) (hn : n ≤ 1099511627776) :
    Calls Try.prog 33 #[.slice A n c] w (Fresh .i64 3 (b2i zs) w) := by
  obtain ⟨i0, hi, hz0, hz1, hz2⟩ := info_parts infoI
  have H := Lib.hid h
  have HBY := Lib.hid hb
  have HL := Lib.hid h.1
  clear h hb
  go_enter Try.func33, Try.ntmps33
  go_wp2_with (refine wpList_make_own _ rfl _ _ 28 rfl w.heap.size 3 i0 (.int .i64 0) 1 Try.underlying28 hi hz0 hz1 _ _ ((n : Int) + 1) (n + 1) rfl rfl (by omega) (by rw [hz2]; omega) (by unfold maxLen; omega) (Nat.le_refl _) ?_)
  intro w1 hown hgrow
  have O1 : Hid (Own .i64 3 w.heap.size w1.heap.size w1 (some ⟨w.heap.size, 0, none⟩) 0 (n + 1) []) := Lib.hid ⟨rfl, hown, Nat.le_refl _, fun a e => by obtain rfl := Option.some.inj e; exact (hown.lt w.heap.size rfl).2⟩
  have B1 : Hid (Below w.heap.size w w1) := Lib.hid ((Below.refl w.heap.size w).grown hgrow (Nat.le_refl _) (fun k h => by cases h))
  have hs1 := B1.out.size
  clear hown hgrow
  go_wp2_with (at_builtin; refine wpList_append_rz _ rfl _ _ 28 rfl .i64 3 i0 0 8 Try.underlying28 hi hz0 hz1 hz2 w.heap.size w1.heap.size _ 0 (n + 1) [] rfl (O1.out.alloc _) _ 1 1 [(n : Int)] rfl (Rz.one _ _ _ _) (by unfold maxLen; omega) (by omega) (by simp; omega) ?_; intro A2 c2 w2 hO2 hS2)
  have B2 : Hid (Below w.heap.size w w2) := Lib.hid ((B1.out.alloc hs1 _).trans (hS2.low (by simp; omega)))
  have P2 : Hid (Intsing w zs 0 A2 (0 + 1) c2 w2) := Lib.hid ⟨by rw [HL.out]; simpa using hO2, rfl, B2.out⟩
  clear hO2 hS2
  go_wp2_with fail
  go_loopw [3, 17] (fun sv iv wr => ∃ (A' : Option Addr) (n' c' i : Nat), sv = .slice A' n' c' ∧ iv = .int .i64 i ∧ i ≤ n ∧ Intsing w zs i A' n' c' wr) (fun _ iv _ => n - (intOf iv).toNat)
  case atStart => exact ⟨_, _, _, 0, rfl, rfl, Nat.zero_le _, P2.out⟩
  case round =>
    obtain ⟨A', n', c', i, rfl, rfl, hin, hP⟩ := hrel
    have hn' : n' ≤ 1099511627777 := by have := hP.2.1; omega
    have PP := Lib.hid hP
    have HO := Lib.hid hP.1
    have hs := hP.2.2.size
    have HB := Lib.hid hP.2.2
    clear hP
    by_cases hlt : i < n
    · obtain ⟨b, off, z, rfl, hbw, hzi, hcell⟩ := (H.out.below HB.out).at_ hlt
      obtain ⟨hz0', hz1'⟩ := HBY.out.at_ hzi
      have HZ := Lib.hid hzi
      clear hzi
      go_wp2_with (at_builtin; refine wpList_append_rz _ rfl _ _ 28 rfl .i64 3 i0 0 8 Try.underlying28 hi hz0 hz1 hz2 w.heap.size wr.heap.size A' n' c' _ rfl (HO.out.alloc _) _ 1 1 [z] rfl (Rz.one _ _ _ _) (by unfold maxLen; omega) (by omega) (by simp; omega) ?_; intro A3 c3 w3 hO3 hS3; have PN := PP.out.next HZ.out hO3 hS3 rfl; clear hO3 hS3)
      go_roundw
      case rel => exact ⟨A3, n' + 1, c3, i + 1, rfl, by go_num, by omega, PN⟩
      case measure => simp [intOf]; omega
    · obtain rfl : i = n := by omega
      go_wp2_with fail
      go_ret
      exact PP.out.ret HL.out
set_option maxRecDepth 100000 in
set_option maxHeartbeats 1000000 in
theorem specB2I (A : Option Addr) (n c : Nat) (zs : List Int) (w : World) (h : Rz .u8 w A n zs) (hb : Byt zs) (hn : n ≤ 1099511627776) :
    Calls Try.prog 31 #[.slice A n c] w (Fresh .i64 3 (b2i zs) w) := by
  obtain ⟨i0, hi, hz0, hz1, hz2⟩ := info_parts infoI
  have H := Lib.hid h
  have HBY := Lib.hid hb
  have HL := Lib.hid h.1
  have P2 : Hid (Intsing w zs 0 (some ⟨w.heap.size, 0, none⟩) 1 1 (w.alloc (.cells #[.int .i64 (n : Int)] 3))) := Lib.hid ⟨by rw [HL.out]; exact (Own.one .i64 3 w n).more (by simp) (Nat.le_refl _), rfl, (Below.refl _ _).alloc (Nat.le_refl _) _⟩
  clear h hb
  go_enter Try.func31, Try.ntmps31
  go_wp2_with fail
  go_loopw [3, 4] (fun sv iv wr => ∃ (A' : Option Addr) (n' c' i : Nat), sv = .slice A' n' c' ∧ iv = .int .i64 i ∧ i ≤ n ∧ Intsing w zs i A' n' c' wr) (fun _ iv _ => n - (intOf iv).toNat)
  case atStart => exact ⟨_, _, _, 0, rfl, rfl, Nat.zero_le _, P2.out⟩
  case round =>
    obtain ⟨A', n', c', i, rfl, rfl, hin, hP⟩ := hrel
    have hn' : n' ≤ 1099511627777 := by have := hP.2.1; omega
    have PP := Lib.hid hP
    have HO := Lib.hid hP.1
    have hs := hP.2.2.size
    have HB := Lib.hid hP.2.2
    clear hP
    by_cases hlt : i < n
    · obtain ⟨b, off, z, rfl, hbw, hzi, hcell⟩ := (H.out.below HB.out).at_ hlt
      obtain ⟨hz0', hz1'⟩ := HBY.out.at_ hzi
      have HZ := Lib.hid hzi
      clear hzi
      go_wp2_with (at_builtin; refine wpList_append_rz _ rfl _ _ 28 rfl .i64 3 i0 0 8 Try.underlying28 hi hz0 hz1 hz2 w.heap.size wr.heap.size A' n' c' _ rfl (HO.out.alloc _) _ 1 1 [z] rfl (Rz.one _ _ _ _) (by unfold maxLen; omega) (by omega) (by simp; omega) ?_; intro A3 c3 w3 hO3 hS3; have PN := PP.out.next HZ.out hO3 hS3 rfl; clear hO3 hS3)
      go_roundw
      case rel => exact ⟨A3, n' + 1, c3, i + 1, rfl, by go_num, by omega, PN⟩
      case measure => simp [intOf]; omega
    · obtain rfl : i = n := by omega
      go_wp2_with fail
      go_ret
      exact PP.out.ret HL.out
end Go.Proofs.Ytkbenfnmigkclaa
