/- The hash as a fold over a list; both sides' Mod, Hash, KeyedHash. -/
import Derived.Test.YtkbenfnmigkclaaApp
import Derived.Test.YtkbenfnmigkclaaEnc
import Derived.Test.YtkbenfnmigkclaaSlI
import Derived.Test.YtkbenfnmigkclaaVar
namespace Go.Proofs.Ytkbenfnmigkclaa
open Go.RowKit
def hstep (d v : Int) : Int := (d * 1000003 + v % 2147483647 + 13) % 2147483647
def hfold (d : Int) (zs : List Int) : Int := zs.foldl hstep d
theorem hfold_nil (d : Int) : hfold d [] = d := rfl
theorem hfold_cons (d z : Int) (zs : List Int) : hfold d (z :: zs) = hfold (hstep d z) zs := rfl
theorem hfold_append (d : Int) (a b : List Int) : hfold d (a ++ b) = hfold (hfold d a) b := List.foldl_append
theorem hfold_snoc (d : Int) (zs : List Int) (i : Nat) (z : Int) (h : zs[i]? = some z) : hfold d (zs.take (i + 1)) = hstep (hfold d (zs.take i)) z := by
  have hi := (List.getElem?_eq_some_iff.1 h).1
  have hz := (List.getElem?_eq_some_iff.1 h).2
  rw [List.take_succ_eq_append_getElem hi, hfold_append, hz]
  rfl
theorem hstep_in (d v : Int) : 0 ≤ hstep d v ∧ hstep d v ≤ 2147483646 := by unfold hstep; omega
theorem hfold_in (zs : List Int) : ∀ d : Int, 0 ≤ d → d ≤ 2147483646 → 0 ≤ hfold d zs ∧ hfold d zs ≤ 2147483646 := by
  induction zs with
  | nil => exact fun d h0 h1 => ⟨h0, h1⟩
  | cons z zs ih => exact fun d _ _ => ih _ (hstep_in d z).1 (hstep_in d z).2
/-- The keyed hash. -/
def khash (k : Int) (zs : List Int) : Int := hfold (hfold (hfold 11 [k]) zs) [k]
theorem khash_flat (k : Int) (zs : List Int) : khash k zs = hfold 11 ([k] ++ zs ++ [k]) := by rw [hfold_append, hfold_append]; rfl
theorem khash_in (k : Int) (zs : List Int) : 0 ≤ khash k zs ∧ khash k zs ≤ 2147483646 := by
  have h1 := hfold_in [k] 11 (by omega) (by omega)
  have h2 := hfold_in zs _ h1.1 h1.2
  exact hfold_in [k] _ h2.1 h2.2
theorem ret_i {k : IntKind} {a b : Int} (h : a = b) : Ending.returned (.int k a) = .returned (.int k b) := by rw [h]
theorem tmod_up {p q : Int} (hq : 1 ≤ q) (h : p.tmod q < 0) : p.tmod q + q = p % q := by
  have e := Int.tmod_eq_emod (a := p) (b := q)
  have l := Int.emod_nonneg p (by omega : q ≠ 0)
  have u := Int.emod_lt_of_pos p (by omega : 0 < q)
  split at e <;> omega
theorem tmod_at {p q : Int} (hq : 1 ≤ q) (h : ¬ p.tmod q < 0) : p.tmod q = p % q := by
  have e := Int.tmod_eq_emod (a := p) (b := q)
  have l := Int.emod_nonneg p (by omega : q ≠ 0)
  have u := Int.emod_lt_of_pos p (by omega : 0 < q)
  split at e <;> omega
theorem tmod_mod {p q : Int} (hq : 1 ≤ q) : p.tmod q % q = p % q := by
  have e := Int.tmod_eq_emod (a := p) (b := q)
  rw [e]
  split
  · simp
  · have h : p % q - ↑q.natAbs = p % q + q * (-1) := by omega
    rw [h, Int.add_mul_emod_self_left]; simp
/-- Both sides' Mod at a modulus in range. -/
theorem specMod (p q : Int) (w : World) (h1 : 1 ≤ q) (h2 : q ≤ 1000000000000) : Calls Try.prog 22 #[.int .i64 p, .int .i64 q] w fun e w' => e = .returned (.int .i64 (p % q)) ∧ w = w' := by
  have hb1 := Int.lt_tmod_of_pos p (by omega : 0 < q)
  have hb2 := Int.tmod_lt_of_pos p (by omega : 0 < q)
  by_cases hp : 0 ≤ p
  · have hb3 := Int.emod_nonneg p (by omega : q ≠ 0)
    have hb4 := Int.emod_lt_of_pos p (by omega : 0 < q)
    go_enter Try.func22, Try.ntmps22
    go_wp2
    go_ret
    exact ⟨ret_i (by simp), rfl⟩
  · go_enter Try.func22, Try.ntmps22
    go_wp2
    go_ret
    exact ⟨ret_i (tmod_mod h1), rfl⟩
theorem implMod (p q : Int) (w : World) (h1 : 1 ≤ q) (h2 : q ≤ 1000000000000) : Calls Try.prog 61 #[.int .i64 p, .int .i64 q] w fun e w' => e = .returned (.int .i64 (p % q)) ∧ w = w' := by
  have hb1 := Int.lt_tmod_of_pos p (by omega : 0 < q)
  have hb2 := Int.tmod_lt_of_pos p (by omega : 0 < q)
  by_cases hp : 0 ≤ p
  · have hb3 := Int.emod_nonneg p (by omega : q ≠ 0)
    have hb4 := Int.emod_lt_of_pos p (by omega : 0 < q)
    go_enter Try.func61, Try.ntmps61
    go_wp2
    go_ret
    exact ⟨rfl, rfl⟩
  · have hp' : p < 0 := by omega
    by_cases ht : p.tmod q < 0
    · go_enter Try.func61, Try.ntmps61
      go_wp2
      go_ret
      exact ⟨ret_i (tmod_up h1 ht), rfl⟩
    · go_enter Try.func61, Try.ntmps61
      go_wp2
      go_ret
      exact ⟨ret_i (tmod_at h1 (by omega)), rfl⟩
set_option maxRecDepth 100000 in
set_option maxHeartbeats 1000000 in
theorem implFold (A : Option Addr) (n c : Nat) (zs : List Int) (d : Int) (w : World) (h : Rz .i64 w A n zs) (hn : n ≤ 1099511627776) (h0 : 0 ≤ d) (h1 : d ≤ 2147483646) :
    Calls Try.prog 51 #[.int .i64 d, .slice A n c] w (GivesInt (hfold d zs) w) := by
  have H := Lib.hid h
  clear h
  go_enter Try.func51, Try.ntmps51
  go_wp2_with fail
  go_loopw [0, 9] (fun dv iv wr => ∃ i : Nat, i ≤ n ∧ dv = .int .i64 (hfold d (zs.take i)) ∧ iv = .int .i64 i ∧ Below w.heap.size w wr) (fun _ iv _ => n - (intOf iv).toNat)
  case atStart => exact ⟨0, Nat.zero_le _, rfl, rfl, Below.refl _ _⟩
  case round =>
    obtain ⟨i, hin, rfl, rfl, hb⟩ := hrel
    obtain ⟨hd0, hd1⟩ := hfold_in (zs.take i) d h0 h1
    by_cases hlt : i < n
    · obtain ⟨b, off, z, rfl, hbw, hzi, hcell⟩ := (H.out.below hb).at_ hlt
      have hs := Lib.hid (hfold_snoc d zs i z hzi)
      have hB := Lib.hid hb
      have hz0 : 0 ≤ z % 2147483647 := by omega
      have hz1 : z % 2147483647 ≤ 2147483646 := by omega
      generalize hD : hfold d (zs.take i) = D at *
      have HD := Lib.hid hD
      clear hzi hb hD
      go_wp2_with ((with_reducible refine (implMod _ _ _ (by omega) (by omega)).mono ?_); rintro e w2 ⟨rfl, rfl⟩)
      go_roundw
      case rel => exact ⟨i + 1, by omega, by rw [hs.out]; rfl, by go_num, hB.out⟩
      case measure => simp [intOf]; omega
    · have hB := Lib.hid hb
      clear hb
      go_wp2_with fail
      go_ret
      exact GivesInt.ret (by rw [List.take_of_length_le (by have := H.out.1; omega)]) hB.out
set_option maxHeartbeats 1000000 in
theorem implHash (A : Option Addr) (n c : Nat) (zs : List Int) (w : World) (h : Rz .i64 w A n zs) (hn : n ≤ 1099511627776) :
    Calls Try.prog 20 #[.slice A n c] w (GivesInt (hfold 11 zs) w) := by
  have H := Lib.hid h
  clear h
  go_enter Try.func20, Try.ntmps20
  go_wp2_with fail
  refine (implFold A n c zs 11 _ H.out hn (by omega) (by omega)).mono ?_
  rintro e w1 ⟨rfl, hB⟩
  go_wp2_with fail
  go_ret
  exact GivesInt.ret rfl hB
set_option maxHeartbeats 1000000 in
theorem implKHash (k : Int) (A : Option Addr) (n c : Nat) (zs : List Int) (w : World) (h : Rz .i64 w A n zs) (hn : n ≤ 1099511627776) :
    Calls Try.prog 19 #[.int .i64 k, .slice A n c] w (GivesInt (khash k zs) w) := by
  have H := Lib.hid h
  obtain ⟨ha0, ha1⟩ := hfold_in [k] 11 (by omega) (by omega)
  obtain ⟨hb0, hb1⟩ := hfold_in zs _ ha0 ha1
  have HK := Lib.hid (show hfold (hfold (hfold 11 [k]) zs) [k] = khash k zs from rfl)
  have e1 := Lib.hid (rfl : hfold 11 [k] = hfold 11 [k])
  generalize hd1 : hfold 11 [k] = d1 at ha0 ha1 hb0 hb1 HK
  have E1 := Lib.hid hd1
  generalize hd2 : hfold d1 zs = d2 at hb0 hb1 HK
  have E2 := Lib.hid hd2
  clear h hd1 hd2 e1
  go_enter Try.func19, Try.ntmps19
  go_wp2_with fail
  refine (implFold _ 1 1 [k] 11 _ (Rz.one _ _ _ _) (by omega) (by omega) (by omega)).mono ?_
  rintro e w1 ⟨rfl, hB1⟩
  rw [E1.out]
  have B1 : Hid (Below w.heap.size w w1) := Lib.hid (((Below.refl _ _).alloc (Nat.le_refl _) (.cells #[.int .i64 k] 3)).trans (hB1.mono (by simp)))
  clear hB1
  go_wp2_with fail
  refine (implFold A n c zs d1 _ (H.out.below B1.out) hn ha0 ha1).mono ?_
  rintro e w2 ⟨rfl, hB2⟩
  rw [E2.out]
  have B2 : Hid (Below w.heap.size w w2) := Lib.hid (B1.out.trans (hB2.mono B1.out.size))
  have hs2 := B2.out.size
  clear hB2
  go_wp2_with fail
  refine (implFold _ 1 1 [k] d2 _ (Rz.one _ _ _ _) (by omega) hb0 hb1).mono ?_
  rintro e w3 ⟨rfl, hB3⟩
  have B3 : Hid (Below w.heap.size w w3) := Lib.hid ((B2.out.alloc hs2 (.cells #[.int .i64 k] 3)).trans (hB3.mono (by simp; omega)))
  clear hB3
  go_wp2_with fail
  go_ret
  exact GivesInt.ret HK.out B3.out
set_option maxRecDepth 100000 in
set_option maxHeartbeats 1000000 in
theorem specHash (A : Option Addr) (n c : Nat) (zs : List Int) (w : World) (h : Rz .i64 w A n zs) (hn : n ≤ 1099511627776) :
    Calls Try.prog 26 #[.slice A n c] w (GivesInt (hfold 11 zs) w) := by
  have H := Lib.hid h
  clear h
  go_enter Try.func26, Try.ntmps26
  go_wp2_with fail
  go_loopw [3, 4] (fun dv iv wr => ∃ i : Nat, i ≤ n ∧ dv = .int .i64 (hfold 11 (zs.take i)) ∧ iv = .int .i64 i ∧ Below w.heap.size w wr) (fun _ iv _ => n - (intOf iv).toNat)
  case atStart => exact ⟨0, Nat.zero_le _, rfl, rfl, Below.refl _ _⟩
  case round =>
    obtain ⟨i, hin, rfl, rfl, hb⟩ := hrel
    obtain ⟨hd0, hd1⟩ := hfold_in (zs.take i) 11 (by omega) (by omega)
    by_cases hlt : i < n
    · obtain ⟨b, off, z, rfl, hbw, hzi, hcell⟩ := (H.out.below hb).at_ hlt
      have hs := Lib.hid (hfold_snoc 11 zs i z hzi)
      have hB := Lib.hid hb
      have hz0 : 0 ≤ z % 2147483647 := by omega
      have hz1 : z % 2147483647 ≤ 2147483646 := by omega
      generalize hD : hfold 11 (zs.take i) = D at *
      have HD := Lib.hid hD
      clear hzi hb hD
      go_wp2_with ((with_reducible refine (specMod _ _ _ (by omega) (by omega)).mono ?_); rintro e w2 ⟨rfl, rfl⟩)
      go_roundw
      case rel => exact ⟨i + 1, by omega, by rw [hs.out]; rfl, by go_num, hB.out⟩
      case measure => simp [intOf]; omega
    · have hB := Lib.hid hb
      clear hb
      go_wp2_with fail
      go_ret
      exact GivesInt.ret (by rw [List.take_of_length_le (by have := H.out.1; omega)]) hB.out
theorem Own.one (k : IntKind) (E : TypeId) (w : World) (z : Int) : Own k E w.heap.size (w.heap.size + 1) (w.alloc (.cells #[.int k z] E)) (some ⟨w.heap.size, 0, none⟩) 1 1 [z] :=
  ⟨rfl, World.ownsRow_lit w #[.int k z] 1 (Nat.le_refl _) (by unfold maxLen; omega) rfl, by simp, fun a e => by obtain rfl := Option.some.inj e; simp⟩
set_option maxRecDepth 100000 in
set_option maxHeartbeats 1000000 in
theorem specKHash (k : Int) (A : Option Addr) (n c : Nat) (zs : List Int) (w : World) (h : Rz .i64 w A n zs) (hn : n ≤ 549755813888) :
    Calls Try.prog 29 #[.int .i64 k, .slice A n c] w (GivesInt (khash k zs) w) := by
  obtain ⟨i0, hi, hz0, hz1, hz2⟩ := info_parts infoI
  have H := Lib.hid h
  clear h
  go_enter Try.func29, Try.ntmps29
  go_wp2_with (first
    | (at_builtin; refine wpList_append_rz _ rfl _ _ 28 rfl .i64 3 i0 0 8 Try.underlying28 hi hz0 hz1 hz2 w.heap.size (w.heap.size + 1) _ 1 1 [k] rfl (Own.one .i64 3 w k) A n c zs rfl (H.out.alloc _) (by unfold maxLen; omega) (by omega) (by simp) ?_; intro A1 c1 w1 hO1 hS1
       have B1 : Hid (Below w.heap.size w w1) := Lib.hid (hS1.below ((Below.refl _ _).alloc (Nat.le_refl _) _) (Nat.le_refl _) (by simp))
       have O1 := Lib.hid hO1
       have hs1 := B1.out.size
       clear hO1 hS1)
    | (at_builtin; refine wpList_append_rz _ rfl _ _ 28 rfl .i64 3 i0 0 8 Try.underlying28 hi hz0 hz1 hz2 w.heap.size w1.heap.size A1 (1 + n) c1 _ rfl (O1.out.alloc _) _ 1 1 [k] rfl (Rz.one _ _ _ _) (by unfold maxLen; omega) (by omega) (by simp; omega) ?_; intro A2 c2 w2 hO2 hS2
       have B2 : Hid (Below w.heap.size w w2) := Lib.hid ((B1.out.alloc hs1 _).trans (hS2.low (by simp; omega)))
       have O2 := Lib.hid hO2
       clear hO2 hS2))
  refine (specHash A2 (1 + n + 1) c2 _ _ O2.out.rz (by omega)).mono ?_
  rintro e w3 ⟨rfl, hB3⟩
  have B3 := Lib.hid (B2.out.trans (hB3.mono B2.out.size))
  clear hB3
  go_wp2_with fail
  go_ret
  exact GivesInt.ret (khash_flat k zs).symm B3.out
end Go.Proofs.Ytkbenfnmigkclaa
