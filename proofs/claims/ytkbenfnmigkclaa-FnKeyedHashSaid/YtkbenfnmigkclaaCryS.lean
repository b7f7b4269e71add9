/- The reference's Encrypt and Decrypt, as lists. -/
import Derived.Test.YtkbenfnmigkclaaCry
import Derived.Test.YtkbenfnmigkclaaAppD
import Derived.Deep.RegionHeld3
namespace Go.Proofs.Ytkbenfnmigkclaa
open Go.RowKit
/-- The first i bytes are laid. -/
def Coding (f : Int → Nat → Int) (zs : List Int) (w : World) (i : Nat) (A : Option Addr) (n c : Nat) (wr : World) : Prop :=
  Own .u8 5 w.heap.size wr.heap.size wr A n c ((crypt f zs).take i) ∧ n = i ∧ Below w.heap.size w wr
theorem Coding.start (f : Int → Nat → Int) (zs : List Int) (w : World) : Coding f zs w 0 (some ⟨w.heap.size, 0, none⟩) 0 0 (w.alloc (.cells #[] 5)) :=
  ⟨(Own.none_ .u8 5 w).more (by simp) (Nat.le_refl _), rfl, (Below.refl _ _).alloc (Nat.le_refl _) _⟩
theorem Coding.next {f : Int → Nat → Int} {zs : List Int} {w w1 w2 : World} {i n n' c' hi : Nat} {A' : Option Addr} {z x : Int} {o : Obj} (hz : zs[i]? = some z) (hn : n = i) (hb : Below w.heap.size w w1)
    (hO : Own .u8 5 w.heap.size w2.heap.size w2 A' n' c' ((crypt f zs).take i ++ [x])) (hS : Step w.heap.size hi (w1.alloc o) w2) (hx : x = f z i) (hn' : n' = n + 1) : Coding f zs w (i + 1) A' n' c' w2 := by
  have hs := hb.size
  have hc := crypt_at (f := f) hz
  refine ⟨?_, by omega, (hb.alloc hs o).trans (hS.low (by simp; omega))⟩
  rw [List.take_succ_eq_append_getElem (List.getElem?_eq_some_iff.1 hc).1, (List.getElem?_eq_some_iff.1 hc).2, ← hx]
  exact hO
theorem Coding.ret {f : Int → Nat → Int} {zs : List Int} {w wr : World} {i n c : Nat} {A : Option Addr} (h : Coding f zs w i A n c wr) (hi : zs.length = i) : Fresh .u8 5 (crypt f zs) w (.returned (.slice A n c)) wr := by
  have h1 := h.1
  rw [List.take_of_length_le (by rw [crypt_len]; omega)] at h1
  exact Fresh.ret h1 h.2.2
theorem specKHashV (k : Int) (A : Option Addr) (n c : Nat) (zs : List Int) (x : Int) (w : World) (hx : khash k zs = x) (h : Rz .i64 w A n zs) (hn : n ≤ 549755813888) :
    Calls Try.prog 29 #[.int .i64 k, .slice A n c] w (GivesInt x w) := by
  subst hx
  exact specKHash k A n c zs w h hn
theorem cell_low {B : Nat} {w w' : World} (h : Below B w w') {b o : Nat} (hb : b < B) {v : Value} (hc : w.cell? ⟨b, o, none⟩ = some v) : w'.cell? ⟨b, o, none⟩ = some v := (h.cell (p := ⟨b, o, none⟩) hb).trans hc
theorem i64_small {n : Int} (h0 : -1000000000000000000 ≤ n) (h1 : n ≤ 1000000000000000000) : IntKind.i64.wrap n = n := by
  simp only [IntKind.wrap, show IntKind.i64.bits = 64 from rfl, show IntKind.i64.signed = true from rfl, Bool.true_and, decide_eq_true_eq]
  split <;> omega
theorem u8_mod (n : Int) : IntKind.u8.wrap n = n % 256 := by
  simp only [IntKind.wrap, show IntKind.u8.bits = 8 from rfl, show IntKind.u8.signed = false from rfl, Bool.false_and]
  rfl
theorem enc_val {key z x : Int} {i : Nat} (h0 : 0 ≤ z) (h1 : z ≤ 255) (h2 : 0 ≤ x) (hx : khash key [(i : Int)] = x) :
    IntKind.u8.wrap ((IntKind.i64.wrap (IntKind.i64.wrap z + x.tmod 256)).tmod 256) = fEnc key z i := by
  have e1 : IntKind.i64.wrap z = z := i64_small (by omega) (by omega)
  have e2 : x.tmod 256 = x % 256 := Int.tmod_eq_emod_of_nonneg h2
  have e3 : IntKind.i64.wrap (z + x % 256) = z + x % 256 := i64_small (by omega) (by omega)
  have e4 : (z + x % 256).tmod 256 = (z + x % 256) % 256 := Int.tmod_eq_emod_of_nonneg (by omega)
  rw [e1, e2, e3, e4]
  unfold fEnc ks
  rw [hx]
  rw [u8_mod]
  omega
theorem dec_val {key z x : Int} {i : Nat} (h0 : 0 ≤ z) (h1 : z ≤ 255) (h2 : 0 ≤ x) (hx : khash key [(i : Int)] = x) :
    IntKind.u8.wrap (IntKind.i64.wrap (IntKind.i64.wrap z - x.tmod 256) % 256) = fDec key z i := by
  have e1 : IntKind.i64.wrap z = z := i64_small (by omega) (by omega)
  have e2 : x.tmod 256 = x % 256 := Int.tmod_eq_emod_of_nonneg h2
  have e3 : IntKind.i64.wrap (z - x % 256) = z - x % 256 := i64_small (by omega) (by omega)
  rw [e1, e2, e3]
  unfold fDec ks
  rw [hx]
  rw [u8_mod]
  omega
set_option maxRecDepth 100000 in
set_option maxHeartbeats 1000000 in
theorem specEnc (key : Int) (A : Option Addr) (n c : Nat) (zs : List Int) (w : World) (h : Rz .u8 w A n zs) (hby : Byt zs) (hn : n ≤ 1099511627776) :
    Calls Try.prog 38 #[.int .i64 key, .slice A n c] w (Fresh .u8 5 (crypt (fEnc key) zs) w) := by
  obtain ⟨i0, hi, hz0, hz1, hz2⟩ := info_parts infoB
  have H := Lib.hid h
  have HBY := Lib.hid hby
  clear h hby
  go_enter Try.func38, Try.ntmps38
  go_wp2_with fail
  go_loopw [5, 6] (fun sv iv wr => ∃ (A' : Option Addr) (n' c' i : Nat), sv = .slice A' n' c' ∧ iv = .int .i64 i ∧ i ≤ n ∧ Coding (fEnc key) zs w i A' n' c' wr) (fun _ iv _ => n - (intOf iv).toNat)
  case atStart => exact ⟨_, _, _, 0, rfl, rfl, Nat.zero_le _, Coding.start _ _ _⟩
  case round =>
    obtain ⟨A', n', c', i, rfl, rfl, hin, hC⟩ := hrel
    have hn' : n' ≤ 1099511627776 := by have := hC.2.1; omega
    have CC := Lib.hid hC
    have HO := Lib.hid hC.1
    have HN := Lib.hid hC.2.1
    have hs := hC.2.2.size
    have HB := Lib.hid hC.2.2
    clear hC
    by_cases hlt : i < n
    · obtain ⟨b, off, z, rfl, hbw0, hzi, hcell0⟩ := H.out.at_ hlt
      have hcell := cell_low HB.out hbw0 hcell0
      have hbw : b < wr.heap.size := by omega
      obtain ⟨hz0', hz1'⟩ := HBY.out.at_ hzi
      obtain ⟨hk0, hk1⟩ := khash_in key [(i : Int)]
      obtain ⟨x, hx⟩ : ∃ x, khash key [(i : Int)] = x := ⟨_, rfl⟩
      rw [hx] at hk0 hk1
      have HX := Lib.hid hx
      have HZ := Lib.hid hzi
      have hB1 : Below wr.heap.size wr (wr.alloc (.cells #[.int .i64 (i : Int)] 3)).drew := ((Below.refl _ _).alloc (Nat.le_refl _) _).drew
      have HB1 := Lib.hid hB1
      have R1 : Hid (Rz .i64 (wr.alloc (.cells #[.int .i64 (i : Int)] 3)).drew (some ⟨wr.heap.size, 0, none⟩) 1 [(i : Int)]) := Lib.hid (Rz.one _ _ _ _)
      have k1 := Lib.hid (cell_low hB1 hbw hcell)
      clear hzi hx hB1 hcell0
      go_wp2_with fail
      go_region_held3 (fun w' => w'.cell? ⟨b, off + i, none⟩ = some (.int .u8 z)) (first | exact k1.out | exact k2.out | exact k3.out _ | exact k4.out | assumption)
        (first
        | (go_at_call 29; refine (specKHashV key _ 1 _ _ x _ HX.out R1.out (by omega)).mono ?_; rintro e w7 ⟨rfl, hb7⟩
           have B7 : Hid (Below wr.heap.size wr w7) := Lib.hid (HB1.out.trans (hb7.mono (by simp)))
           have k2 := Lib.hid (cell_low B7.out hbw hcell)
           have k3 : Hid (∀ o, (w7.alloc o).cell? ⟨b, off + i, none⟩ = some (.int .u8 z)) := Lib.hid fun o => cell_low (B7.out.trans ((Below.refl _ _).alloc B7.out.size o)) hbw hcell
           have HO7 := Lib.hid (HO.out.below B7.out)
           clear hb7)
        | (refine step_append_rz _ rfl _ _ 22 rfl .u8 5 i0 0 1 Try.underlying22 hi hz0 hz1 hz2 w.heap.size wr.heap.size A' n' c' _ rfl (HO7.out.alloc _) _ 1 1 [_] rfl (Rz.one _ _ _ _) ?h63 ?hby ?hlo ?hK
           case h63 => unfold maxLen; omega
           case hby => omega
           case hlo => have := B7.out.size; simp; omega
           intro A8 c8 w8 hO8 hS8
           have k4 : Hid (w8.cell? ⟨b, off + i, none⟩ = some (.int .u8 z)) := Lib.hid (cell_low (((B7.out.mono hs).trans ((Below.refl _ _).alloc (by have := B7.out.size; omega) _)).trans (hS8.low (by have := B7.out.size; simp; omega))) hbw0 hcell)
           have HO8 := Lib.hid hO8
           have HS8 := Lib.hid hS8
           clear hO8 hS8))
      have hN := Coding.next (f := fEnc key) HZ.out HN.out (HB.out.trans (B7.out.mono hs)) HO8.out HS8.out (enc_val hz0' hz1' hk0 HX.out) rfl
      clear HO8 HS8
      go_wp2_with fail
      go_roundw
      case rel => exact ⟨A8, n' + 1, c8, i + 1, rfl, by go_num, by omega, hN⟩
      case measure => simp [intOf]; omega
    · obtain rfl : i = n := by omega
      go_wp2_with fail
      go_ret
      exact CC.out.ret H.out.1
set_option maxRecDepth 100000 in
set_option maxHeartbeats 1000000 in
theorem specDec (key : Int) (A : Option Addr) (n c : Nat) (zs : List Int) (w : World) (h : Rz .u8 w A n zs) (hby : Byt zs) (hn : n ≤ 1099511627776) :
    Calls Try.prog 40 #[.int .i64 key, .slice A n c] w (Fresh .u8 5 (crypt (fDec key) zs) w) := by
  obtain ⟨i0, hi, hz0, hz1, hz2⟩ := info_parts infoB
  have H := Lib.hid h
  have HBY := Lib.hid hby
  clear h hby
  go_enter Try.func40, Try.ntmps40
  go_wp2_with fail
  go_loopw [5, 6] (fun sv iv wr => ∃ (A' : Option Addr) (n' c' i : Nat), sv = .slice A' n' c' ∧ iv = .int .i64 i ∧ i ≤ n ∧ Coding (fDec key) zs w i A' n' c' wr) (fun _ iv _ => n - (intOf iv).toNat)
  case atStart => exact ⟨_, _, _, 0, rfl, rfl, Nat.zero_le _, Coding.start _ _ _⟩
  case round =>
    obtain ⟨A', n', c', i, rfl, rfl, hin, hC⟩ := hrel
    have hn' : n' ≤ 1099511627776 := by have := hC.2.1; omega
    have CC := Lib.hid hC
    have HO := Lib.hid hC.1
    have HN := Lib.hid hC.2.1
    have hs := hC.2.2.size
    have HB := Lib.hid hC.2.2
    clear hC
    by_cases hlt : i < n
    · obtain ⟨b, off, z, rfl, hbw0, hzi, hcell0⟩ := H.out.at_ hlt
      have hcell := cell_low HB.out hbw0 hcell0
      have hbw : b < wr.heap.size := by omega
      obtain ⟨hz0', hz1'⟩ := HBY.out.at_ hzi
      obtain ⟨hk0, hk1⟩ := khash_in key [(i : Int)]
      obtain ⟨x, hx⟩ : ∃ x, khash key [(i : Int)] = x := ⟨_, rfl⟩
      rw [hx] at hk0 hk1
      have HX := Lib.hid hx
      have HZ := Lib.hid hzi
      have hB1 : Below wr.heap.size wr (wr.alloc (.cells #[.int .i64 (i : Int)] 3)).drew := ((Below.refl _ _).alloc (Nat.le_refl _) _).drew
      have HB1 := Lib.hid hB1
      have R1 : Hid (Rz .i64 (wr.alloc (.cells #[.int .i64 (i : Int)] 3)).drew (some ⟨wr.heap.size, 0, none⟩) 1 [(i : Int)]) := Lib.hid (Rz.one _ _ _ _)
      have k1 := Lib.hid (cell_low hB1 hbw hcell)
      clear hzi hx hB1 hcell0
      go_wp2_with fail
      go_region_held3 (fun w' => w'.cell? ⟨b, off + i, none⟩ = some (.int .u8 z)) (first | exact k1.out | exact k2.out | exact k3.out _ | exact k4.out | assumption)
        (first
        | (go_at_call 29; refine (specKHashV key _ 1 _ _ x _ HX.out R1.out (by omega)).mono ?_; rintro e w7 ⟨rfl, hb7⟩
           have B7 : Hid (Below wr.heap.size wr w7) := Lib.hid (HB1.out.trans (hb7.mono (by simp)))
           have k2 := Lib.hid (cell_low B7.out hbw hcell)
           have k3 : Hid (∀ o, (w7.alloc o).cell? ⟨b, off + i, none⟩ = some (.int .u8 z)) := Lib.hid fun o => cell_low (B7.out.trans ((Below.refl _ _).alloc B7.out.size o)) hbw hcell
           have HO7 := Lib.hid (HO.out.below B7.out)
           clear hb7)
        | (go_at_call 22; refine (specMod _ 256 _ (by omega) (by omega)).mono ?_; rintro e w9 ⟨rfl, rfl⟩)
        | (refine step_append_rz _ rfl _ _ 22 rfl .u8 5 i0 0 1 Try.underlying22 hi hz0 hz1 hz2 w.heap.size wr.heap.size A' n' c' _ rfl (HO7.out.alloc _) _ 1 1 [_] rfl (Rz.one _ _ _ _) ?h63 ?hby ?hlo ?hK
           case h63 => unfold maxLen; omega
           case hby => omega
           case hlo => have := B7.out.size; simp; omega
           intro A8 c8 w8 hO8 hS8
           have k4 : Hid (w8.cell? ⟨b, off + i, none⟩ = some (.int .u8 z)) := Lib.hid (cell_low (((B7.out.mono hs).trans ((Below.refl _ _).alloc (by have := B7.out.size; omega) _)).trans (hS8.low (by have := B7.out.size; simp; omega))) hbw0 hcell)
           have HO8 := Lib.hid hO8
           have HS8 := Lib.hid hS8
           clear hO8 hS8))
      have hN := Coding.next (f := fDec key) HZ.out HN.out (HB.out.trans (B7.out.mono hs)) HO8.out HS8.out (dec_val hz0' hz1' hk0 HX.out) rfl
      clear HO8 HS8
      go_wp2_with fail
      go_roundw
      case rel => exact ⟨A8, n' + 1, c8, i + 1, rfl, by go_num, by omega, hN⟩
      case measure => simp [intOf]; omega
    · obtain rfl : i = n := by omega
      go_wp2_with fail
      go_ret
      exact CC.out.ret H.out.1
end Go.Proofs.Ytkbenfnmigkclaa
