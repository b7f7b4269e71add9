/- FnKeyedHash: changing one value modulo Modulus changes the keyed hash; derived keys are valid. -/
import Derived.Test.YtkbenfnmigkclaaMix
import Derived.Test.YtkbenfnmigkclaaDraw3
import Derived.Test.YtkbenfnmigkclaaDer
import Derived.Test.YtkbenfnmigkclaaAppG
import Derived.Deep.CutRange
namespace Go.Proofs.Ytkbenfnmigkclaa
open Go.RowKit
theorem Code.low {w w' : World} {A : Option Addr} {n : Nat} (h : Code w A n) (hb : Below w.heap.size w w') : Code w' A n := by
  obtain ⟨zs, h1, h2, h3, h4⟩ := h
  exact ⟨zs, h1, h2, h3, (h4.below hb).more hb.size⟩
theorem at_num (A : Option Addr) (n c : Nat) (i : Int) (zs : List Int) (w : World) (h : Rz .u8 w A n zs) (hb : Byt zs) (hn : n ≤ 1048576) (h0 : 0 ≤ i) (hi : i ≤ 1048576) : Calls Try.prog 21 #[.slice A n c, .int .i64 i] w (Byte1 w) := by
  obtain ⟨j, rfl⟩ : ∃ j : Nat, i = j := ⟨i.toNat, by omega⟩
  exact at_any A n c j zs w h hb hn (by omega)
theorem implKHashV (k : Int) (A : Option Addr) (n c : Nat) (zs : List Int) (x : Int) (w : World) (hx : khash k zs = x) (h : Rz .i64 w A n zs) (hn : n ≤ 1099511627776) :
    Calls Try.prog 19 #[.int .i64 k, .slice A n c] w (GivesInt x w) := by
  subst hx
  exact implKHash k A n c zs w h hn
theorem implHashV (A : Option Addr) (n c : Nat) (zs : List Int) (x : Int) (w : World) (hx : hfold 11 zs = x) (h : Rz .i64 w A n zs) (hn : n ≤ 1099511627776) :
    Calls Try.prog 20 #[.slice A n c] w (GivesInt x w) := by
  subst hx
  exact implHash A n c zs w h hn
theorem specModW (p p' q : Int) (w : World) (hp : p = p') (h1 : 1 ≤ q) (h2 : q ≤ 1000000000000) : Calls Try.prog 22 #[.int .i64 p, .int .i64 q] w fun e w' => e = .returned (.int .i64 (p' % q)) ∧ w = w' := by
  subst hp
  exact specMod p q w h1 h2
theorem wrapped {z a : Int} (h1 : -1 ≤ z) (h2 : z ≤ 2147483648) (h3 : 0 ≤ a) (h4 : a ≤ 255) : IntKind.i64.wrap (IntKind.i64.wrap (z + 1) + a) = z + 1 + a := by
  rw [i64_small (n := z + 1) (by omega) (by omega), i64_small (by omega) (by omega)]
set_option maxRecDepth 100000 in
set_option maxHeartbeats 8000000 in
theorem law_keyed (A : Option Addr) (n c : Nat) (W : World) (hC : Code W A n) :
    Calls Try.prog 4 #[.slice A n c] W (GivesBool true W) := by
  obtain ⟨zc, hzc, hbyc⟩ := hC.rz
  have HZC := Lib.hid hzc
  have HBYC := Lib.hid hbyc
  have HC := Lib.hid hC
  clear hC hzc hbyc
  by_cases hn : n ≤ 1048576
  · obtain ⟨i0, hi, hz0, hz1, hz2⟩ := info_parts infoI
    go_enter Try.func4, Try.ntmps4
    go_wp2_with fail
    refine (big_no A n c _ hn).mono ?_
    rintro e w' ⟨rfl, rfl⟩
    go_wp2_with fail
    refine (drawKHash A n c _ HC.out hn).mono ?_
    rintro e w1 ⟨k, Ab, nb, cb, zb, rfl, hk, hRb, hzw, hnb, hb1⟩
    have R1 := Lib.hid hRb
    have HW := Lib.hid hzw
    have B1 := Lib.hid hb1
    have HL := Lib.hid hRb.1
    have hs1 := hb1.size
    obtain ⟨hh0, hh1⟩ := khash_in k zb
    obtain ⟨h, hh⟩ : ∃ h, khash k zb = h := ⟨_, rfl⟩
    rw [hh] at hh0 hh1
    have HH := Lib.hid hh
    have HF : Hid (hfold 11 ([k] ++ zb ++ [k]) = h) := Lib.hid ((khash_flat k zb).symm.trans hh)
    clear hRb hzw hb1 hk hh
    go_wp2_with fail
    refine (implKHashV k Ab nb cb zb h _ HH.out R1.out (by omega)).mono ?_
    rintro e w2 ⟨rfl, hb2⟩
    have R2 := Lib.hid (R1.out.below hb2)
    have B2 := Lib.hid (B1.out.trans (hb2.mono B1.out.size))
    have hs2 := B2.out.size
    clear hb2 R1
    go_wp2_with (first
      | (at_builtin; refine wpList_append_rzg _ (by simp [Region.wanted, yielded]; omega) _ _ 28 rfl .i64 3 i0 0 8 Try.underlying28 hi hz0 hz1 hz2 w2.heap.size (w2.heap.size + 1) _ 1 1 [k] rfl (Own.one .i64 3 w2 k) Ab nb cb zb rfl (R2.out.alloc _) (by unfold maxLen; omega) (by omega) (by simp) ?_; intro A3 c3 w3 hO3 hS3
         have B3 : Hid (Below w2.heap.size w2 w3) := Lib.hid (hS3.below ((Below.refl _ _).alloc (Nat.le_refl _) _) (Nat.le_refl _) (by simp))
         have O3 := Lib.hid hO3
         have hs3 := B3.out.size
         clear hO3 hS3)
      | (at_builtin; refine wpList_append_rzg _ (by simp [Region.wanted, yielded]; omega) _ _ 28 rfl .i64 3 i0 0 8 Try.underlying28 hi hz0 hz1 hz2 w2.heap.size w3.heap.size A3 (1 + nb) c3 _ rfl (O3.out.alloc _) _ 1 1 [k] rfl (Rz.one _ _ _ _) (by unfold maxLen; omega) (by omega) (by simp; omega) ?_; intro A4 c4 w4 hO4 hS4
         have B4 : Hid (Below w2.heap.size w2 w4) := Lib.hid ((B3.out.alloc hs3 _).trans (hS4.low (by simp; omega)))
         have O4 := Lib.hid hO4
         clear hO4 hS4))
    refine (implHashV A4 (1 + nb + 1) c4 _ h _ HF.out O4.out.rz (by omega)).mono ?_
    rintro e w5 ⟨rfl, hb5⟩
    have R5 := Lib.hid (R2.out.below (B4.out.trans (hb5.mono B4.out.size)))
    have B5 := Lib.hid (B2.out.trans ((B4.out.trans (hb5.mono B4.out.size)).mono hs2))
    have hs5 := B5.out.size
    clear hb5 R2 O3 O4 B3 B4 HF
    by_cases h0 : nb = 0
    · subst h0
      go_wp2_with fail
      refine (drawDer A n c _ (HC.out.low B5.out) hn).mono ?_
      rintro e wD ⟨kd, sd, rfl, hkd, hsd, hbD⟩
      have BD := Lib.hid (B5.out.trans (hbD.mono B5.out.size))
      clear hbD hkd
      go_wp2_with fail
      refine (implDerive kd sd _ (by omega)).mono ?_
      rintro e wE ⟨rfl, hbE⟩
      have BE := Lib.hid (BD.out.trans (hbE.mono BD.out.size))
      obtain ⟨hd0, hd1⟩ := derive_in kd sd
      generalize derive kd sd = dk at *
      clear hbE BD
      go_wp2_with fail
      refine (valid_impl dk _ hd0 hd1).mono ?_
      rintro e wF ⟨rfl, hbF⟩
      have BF := Lib.hid (BE.out.trans (hbF.mono BE.out.size))
      clear hbF BE
      go_wp2_with fail
      go_ret
      exact GivesBool.ret BF.out
    · have hpos : 0 < nb := by omega
      go_upto_region 9 with (
        at_builtin; refine wpList_append_rz _ rfl _ _ 28 rfl .i64 3 i0 0 8 Try.underlying28 hi hz0 hz1 hz2 w5.heap.size (w5.heap.size + 1) _ 0 0 [] rfl (Own.none_ .i64 3 w5) Ab nb cb zb rfl (R5.out.alloc _) (by unfold maxLen; omega) (by omega) (by simp) ?_; intro A6 c6 w6 hO6 hS6
        have B6' : Hid (Below w5.heap.size w5 w6) := Lib.hid (hS6.below ((Below.refl _ _).alloc (Nat.le_refl _) _) (Nat.le_refl _) (by simp))
        have O6 : Hid (Own .i64 3 w5.heap.size w6.heap.size w6 A6 nb c6 zb) := Lib.hid (by simpa using hO6)
        have R6 := Lib.hid (R5.out.below B6'.out)
        have B6 := Lib.hid (B5.out.trans (B6'.out.mono hs5))
        clear hO6 hS6)
      go_cut [7] from 10 to 74 (fun s7 wx => ∃ i : Nat, i < nb ∧ s7 = .int .i64 (i : Int) ∧ w6 = wx)
      case first =>
        go_wp2_with fail
        refine (at_num A n c 0 zc _ (HZC.out.below B6.out) HBYC.out hn (by omega) (by omega)).mono ?_
        rintro e w7 ⟨x0, hx0, hx1, rfl, rfl⟩
        obtain ⟨p, rfl⟩ : ∃ p : Nat, x0 = p := ⟨x0.toNat, by omega⟩
        go_wp2_with fail
        go_meet
        have hp : ((p % nb : Nat) : Int) = (p : Int) % (nb : Int) := Int.natCast_emod p nb
        exact ⟨p % nb, Nat.mod_lt _ hpos, by rw [hp], rfl⟩
      case rest =>
      obtain ⟨i, hin, rfl, rfl⟩ := hcut
      obtain ⟨g, z, hA, -, -, hzi, hcell, hfz⟩ := O6.out.slot hin
      subst hA
      obtain ⟨hz1', hz2'⟩ := HW.out z (List.mem_of_getElem? hzi)
      have HZ := Lib.hid hzi
      have O7 : Hid (Own .i64 3 w5.heap.size w6.heap.size w6.drew (some ⟨g, 0, none⟩) nb c6 zb) := Lib.hid O6.out
      have B7 : Hid (Below W.heap.size W w6.drew) := Lib.hid B6.out.drew
      have RZ : Hid (Rz .u8 w6.drew A n zc) := Lib.hid (HZC.out.below B7.out)
      clear hzi O6 B6 B6'
      go_wp2_with fail
      go_region_with (first
        | (go_at_call 21; refine (at_num A n c 1 zc w6.drew RZ.out HBYC.out hn (by omega) (by omega)).mono ?_; rintro e w8 ⟨a1, ha0, ha1, rfl, rfl⟩)
        | (go_at_call 22; refine (specModW _ (z + 1 + a1) 2147483647 _ (wrapped hz1' hz2' ha0 ha1) (by omega) (by omega)).mono ?_; rintro e w9 ⟨rfl, rfl⟩))
      all_goals (
        obtain ⟨O8, S8⟩ := O7.out.store (i := i) rfl ((z + 1 + a1) % 2147483647)
        have hne := khash_set k zb i z ((z + 1 + a1) % 2147483647) HZ.out (mod_moved ha0 ha1)
        rw [HH.out] at hne
        obtain ⟨h', hh'⟩ : ∃ h', khash k (zb.set i ((z + 1 + a1) % 2147483647)) = h' := ⟨_, rfl⟩
        rw [hh'] at hne
        have HH' := Lib.hid hh'
        have B8 := Lib.hid (S8.below B7.out hs5 B7.out.size)
        have HO8 := Lib.hid O8
        clear hh' O8 S8 O7 B7 RZ
        go_wp2_with fail
        refine (implKHashV k _ nb c6 _ h' _ HH'.out HO8.out.rz (by omega)).mono ?_
        rintro e w10 ⟨rfl, hb10⟩
        have B10 := Lib.hid (B8.out.trans (hb10.mono B8.out.size))
        clear hb10 HO8 B8
        go_wp2_with fail
        refine (drawDer A n c _ (HC.out.low B10.out) hn).mono ?_
        rintro e wD ⟨kd, sd, rfl, hkd, hsd, hbD⟩
        have BD := Lib.hid (B10.out.trans (hbD.mono B10.out.size))
        clear hbD hkd
        go_wp2_with fail
        refine (implDerive kd sd _ (by omega)).mono ?_
        rintro e wE ⟨rfl, hbE⟩
        have BE := Lib.hid (BD.out.trans (hbE.mono BD.out.size))
        obtain ⟨hd0, hd1⟩ := derive_in kd sd
        generalize derive kd sd = dk at *
        clear hbE BD
        go_wp2_with fail
        refine (valid_impl dk _ hd0 hd1).mono ?_
        rintro e wF ⟨rfl, hbF⟩
        have BF := Lib.hid (BE.out.trans (hbF.mono BE.out.size))
        clear hbF BE
        go_wp2_with fail
        go_ret
        exact GivesBool.ret BF.out)
  · go_enter Try.func4, Try.ntmps4
    go_wp2_with fail
    refine (big_yes A n c _ hn).mono ?_
    rintro e w' ⟨rfl, rfl⟩
    go_wp2_with fail
    go_ret
    exact GivesBool.ret (Below.refl _ _)
end Go.Proofs.Ytkbenfnmigkclaa
