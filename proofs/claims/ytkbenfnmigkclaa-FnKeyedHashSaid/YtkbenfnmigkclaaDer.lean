/- Both sides' DeriveFromString; IsValidKey. -/
import Derived.Test.YtkbenfnmigkclaaB2I
namespace Go.Proofs.Ytkbenfnmigkclaa
open Go.RowKit
/-- A string's bytes as numbers. -/
def strI (s : ByteArray) : List Int := s.data.toList.map fun b => (b.toNat : Int)
theorem strI_len (s : ByteArray) : (strI s).length = s.size := by rw [strI, List.length_map, Array.length_toList]; rfl
theorem strI_byt (s : ByteArray) : Byt (strI s) := fun z hz => by
  obtain ⟨b, -, rfl⟩ := List.mem_map.1 hz
  have := b.toNat_lt
  omega
theorem bytesOfStr (w : World) (s : ByteArray) : ∃ A n c w', (convert 9 22 (.string s)).run Try.prog w = .ok (.slice A n c) w' ∧ Rz .u8 w' A n (strI s) ∧ n = s.size ∧ Below w.heap.size w w' := by
  have hc := run_bytes_of_string (P := Try.prog) w 9 22 5 s Try.underlying9 Try.underlying22 Try.underlying5
  generalize grownCap w s.size 0 5 = cp at hc
  refine ⟨_, _, _, _, hc, ⟨strI_len s, Or.inr ⟨w.heap.size, 0, rfl, by simp, fun j v hj => ?_⟩⟩, rfl, ((Below.refl _ _).drew).alloc (Nat.le_refl _) _⟩
  have hjl : j < s.data.size := by
    have := (List.getElem?_eq_some_iff.1 hj).1
    rw [List.length_map, strI_len] at this
    exact this
  have hv : v = .int .u8 (s.data[j].toNat : Int) := by
    rw [strI, List.map_map, List.getElem?_map, List.getElem?_eq_getElem (by simpa using hjl)] at hj
    simp at hj
    exact hj.symm
  rw [hv, ← bytesRow_at s cp j hjl, Nat.zero_add]
  exact cell_of_row _ w.heap.size j (bytesRow s cp) 5 ((bytesRow s cp).size, (bytesRow s cp).size + 1) (by show (w.heap.push _)[w.heap.size]? = _; simp)
/-- The derived key. -/
def derive (k : Int) (s : ByteArray) : Int := if khash k (b2i (strI s)) = 0 then 1 else khash k (b2i (strI s))
theorem derive_zero {k : Int} {s : ByteArray} (h : khash k (b2i (strI s)) = 0) : derive k s = 1 := if_pos h
theorem derive_more {k : Int} {s : ByteArray} (h : ¬ khash k (b2i (strI s)) = 0) : derive k s = khash k (b2i (strI s)) := if_neg h
theorem derive_in (k : Int) (s : ByteArray) : 1 ≤ derive k s ∧ derive k s ≤ 2147483646 := by
  have := khash_in k (b2i (strI s))
  unfold derive
  split <;> omega
set_option maxHeartbeats 1000000 in
theorem implDerive (k : Int) (s : ByteArray) (w : World) (hn : s.size ≤ 1099511627775) : Calls Try.prog 25 #[.int .i64 k, .string s] w (GivesInt (derive k s) w) := by
  obtain ⟨A, n, c, w1, hcv, hR, hns, hb1⟩ := bytesOfStr w s
  have H := Lib.hid hR
  have HN := Lib.hid hns
  have B1 := Lib.hid hb1
  have hn' : n ≤ 1099511627775 := by omega
  clear hR hns hb1
  go_enter Try.func25, Try.ntmps25
  go_wp2_with fail
  refine (implB2I A n c (strI s) _ H.out (strI_byt s) (by omega)).mono ?_
  rintro e w2 ⟨A2, n2, c2, rfl, hO, hb⟩
  have hn2 : n2 ≤ 1099511627776 := by have h1 := hO.1; have h2 := H.out.1; rw [b2i_len] at h1; omega
  have B2 := Lib.hid (B1.out.trans (hb.mono B1.out.size))
  have O2 := Lib.hid hO
  clear hO hb
  go_wp2_with fail
  refine (implKHash k A2 n2 c2 _ _ O2.out.rz hn2).mono ?_
  rintro e w3 ⟨rfl, hb3⟩
  have B3 := Lib.hid (B2.out.trans (hb3.mono B2.out.size))
  clear hb3
  obtain ⟨hk0, hk1⟩ := khash_in k (b2i (strI s))
  by_cases hx : khash k (b2i (strI s)) = 0
  · have HK := Lib.hid (derive_zero hx)
    rw [hx]
    clear hx
    go_wp2_with fail
    go_ret
    exact GivesInt.ret HK.out.symm B3.out
  · have HK := Lib.hid (derive_more hx)
    have hx' : 1 ≤ khash k (b2i (strI s)) := by omega
    generalize khash k (b2i (strI s)) = x at *
    clear hx hk0
    go_wp2_with fail
    go_ret
    exact GivesInt.ret HK.out.symm B3.out
set_option maxHeartbeats 1000000 in
theorem specDerive (k : Int) (s : ByteArray) (w : World) (hn : s.size ≤ 274877906943) : Calls Try.prog 41 #[.int .i64 k, .string s] w (GivesInt (derive k s) w) := by
  obtain ⟨A, n, c, w1, hcv, hR, hns, hb1⟩ := bytesOfStr w s
  have H := Lib.hid hR
  have HN := Lib.hid hns
  have B1 := Lib.hid hb1
  have hn' : n ≤ 274877906943 := by omega
  clear hR hns hb1
  go_enter Try.func41, Try.ntmps41
  go_wp2_with fail
  refine (specB2I A n c (strI s) _ H.out (strI_byt s) (by omega)).mono ?_
  rintro e w2 ⟨A2, n2, c2, rfl, hO, hb⟩
  have hn2 : n2 ≤ 274877906944 := by have h1 := hO.1; have h2 := H.out.1; rw [b2i_len] at h1; omega
  have B2 := Lib.hid (B1.out.trans (hb.mono B1.out.size))
  have O2 := Lib.hid hO
  clear hO hb
  go_wp2_with fail
  refine (specKHash k A2 n2 c2 _ _ O2.out.rz (by omega)).mono ?_
  rintro e w3 ⟨rfl, hb3⟩
  have B3 := Lib.hid (B2.out.trans (hb3.mono B2.out.size))
  clear hb3
  obtain ⟨hk0, hk1⟩ := khash_in k (b2i (strI s))
  by_cases hx : khash k (b2i (strI s)) = 0
  · have HK := Lib.hid (derive_zero hx)
    rw [hx]
    clear hx
    go_wp2
    go_ret
    exact GivesInt.ret HK.out.symm B3.out
  · have HK := Lib.hid (derive_more hx)
    have hx' : 1 ≤ khash k (b2i (strI s)) := by omega
    by_cases h1 : khash k (b2i (strI s)) = 1
    · have HK1 := Lib.hid h1
      rw [h1]
      clear h1 hx hk0 hk1 hx'
      go_wp2
      go_ret
      exact GivesInt.ret (HK.out.trans HK1.out).symm B3.out
    · have hx2 : 1 < khash k (b2i (strI s)) := by omega
      generalize khash k (b2i (strI s)) = x at *
      clear hx hk0 h1 hx'
      go_wp2
      go_ret
      exact GivesInt.ret HK.out.symm B3.out
theorem valid_impl (k : Int) (w : World) (h0 : 1 ≤ k) (h1 : k ≤ 2147483646) : Calls Try.prog 24 #[.int .i64 k] w (GivesBool true w) := by
  go_enter Try.func24, Try.ntmps24
  go_wp2
  go_ret
  exact GivesBool.ret (Below.refl _ _)
end Go.Proofs.Ytkbenfnmigkclaa
