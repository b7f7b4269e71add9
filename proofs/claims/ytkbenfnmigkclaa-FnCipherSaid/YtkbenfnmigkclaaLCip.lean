/- FnCipher: decryption inverts encryption, and encryption inverts decryption. -/
import Derived.Test.YtkbenfnmigkclaaMix
import Derived.Test.YtkbenfnmigkclaaDraw3
namespace Go.Proofs.Ytkbenfnmigkclaa
open Go.RowKit
set_option maxRecDepth 100000 in
set_option maxHeartbeats 8000000 in
theorem law_cipher (A : Option Addr) (n c : Nat) (W : World) (hC : Code W A n) :
    Calls Try.prog 3 #[.slice A n c] W (GivesBool true W) := by
  have HC := Lib.hid hC
  clear hC
  by_cases hn : n ≤ 1048576
  · go_enter Try.func3, Try.ntmps3
    go_wp2_with fail
    refine (big_no A n c _ hn).mono ?_
    rintro e w' ⟨rfl, rfl⟩
    go_wp2_with fail
    refine (drawEnc A n c _ HC.out hn).mono ?_
    rintro e w1 ⟨k, Ab, nb, cb, zb, rfl, hk, hRb, hby, hnb, hb1⟩
    have R1 := Lib.hid hRb
    have HBY := Lib.hid hby
    have B1 := Lib.hid hb1
    have hzl : zb.length ≤ 7 := by have := hRb.1; omega
    have HL := Lib.hid hRb.1
    clear hRb hby hb1 hk
    go_wp2_with fail
    refine (implEnc k Ab nb cb zb _ R1.out (by omega)).mono ?_
    rintro e w2 ⟨A2, n2, c2, rfl, hO2, hb2⟩
    have hn2 : n2 ≤ 7 := by have h1 := hO2.1; rw [crypt_len] at h1; omega
    have O2 := Lib.hid hO2
    have R2 := Lib.hid (R1.out.below hb2)
    have B2 := Lib.hid (B1.out.trans (hb2.mono B1.out.size))
    clear hO2 hb2 R1
    go_wp2_with fail
    refine (implDec k A2 n2 c2 _ _ O2.out.rz (by omega)).mono ?_
    rintro e w3 ⟨A3, n3, c3, rfl, hO3, hb3⟩
    have hn3 : n3 ≤ 7 := by have h1 := hO3.1; rw [crypt_len, crypt_len] at h1; omega
    have O3 := Lib.hid hO3
    have R3 := Lib.hid (R2.out.below hb3)
    have B3 := Lib.hid (B2.out.trans (hb3.mono B2.out.size))
    clear hO3 hb3 R2
    go_wp2_with fail
    refine (sameB A3 Ab n3 nb c3 cb _ _ _ O3.out.rz R3.out (dec_enc HBY.out) (by omega)).mono ?_
    rintro e w4 ⟨rfl, hb4⟩
    have R4 := Lib.hid (R3.out.below hb4)
    have B4 := Lib.hid (B3.out.trans (hb4.mono B3.out.size))
    clear hb4 R3
    go_wp2_with fail
    refine (implDec k Ab nb cb zb _ R4.out (by omega)).mono ?_
    rintro e w5 ⟨A5, n5, c5, rfl, hO5, hb5⟩
    have hn5 : n5 ≤ 7 := by have h1 := hO5.1; rw [crypt_len] at h1; omega
    have O5 := Lib.hid hO5
    have R5 := Lib.hid (R4.out.below hb5)
    have B5 := Lib.hid (B4.out.trans (hb5.mono B4.out.size))
    clear hO5 hb5 R4
    go_wp2_with fail
    refine (implEnc k A5 n5 c5 _ _ O5.out.rz (by omega)).mono ?_
    rintro e w6 ⟨A6, n6, c6, rfl, hO6, hb6⟩
    have hn6 : n6 ≤ 7 := by have h1 := hO6.1; rw [crypt_len, crypt_len] at h1; omega
    have O6 := Lib.hid hO6
    have R6 := Lib.hid (R5.out.below hb6)
    have B6 := Lib.hid (B5.out.trans (hb6.mono B5.out.size))
    clear hO6 hb6 R5
    go_wp2_with fail
    refine (sameB A6 Ab n6 nb c6 cb _ _ _ O6.out.rz R6.out (enc_dec HBY.out) (by omega)).mono ?_
    rintro e w7 ⟨rfl, hb7⟩
    have R7 := Lib.hid (R6.out.below hb7)
    have B7 := Lib.hid (B6.out.trans (hb7.mono B6.out.size))
    clear hb7 R6
    go_wp2_with fail
    refine (implEnc k Ab nb cb zb _ R7.out (by omega)).mono ?_
    rintro e w8 ⟨A8, n8, c8, rfl, hO8, hb8⟩
    obtain rfl : n8 = nb := by have h1 := hO8.1; rw [crypt_len, HL.out] at h1; exact h1.symm
    have B8 := Lib.hid (B7.out.trans (hb8.mono B7.out.size))
    clear hO8 hb8 R7
    go_wp2_with fail
    go_ret
    exact GivesBool.ret B8.out
  · go_enter Try.func3, Try.ntmps3
    go_wp2_with fail
    refine (big_yes A n c _ hn).mono ?_
    rintro e w' ⟨rfl, rfl⟩
    go_wp2_with fail
    go_ret
    exact GivesBool.ret (Below.refl _ _)
end Go.Proofs.Ytkbenfnmigkclaa
