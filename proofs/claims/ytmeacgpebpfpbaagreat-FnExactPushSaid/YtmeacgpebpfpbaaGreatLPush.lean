/- Exact laws of chapter 12: Push. -/
import Derived.Test.YtmeacgpebpfpbaaGreatMzPushS
import Derived.Test.YtmeacgpebpfpbaaGreatMzMarkV7
import Derived.Test.YtmeacgpebpfpbaaGreatMzMarkV6
import Derived.Test.YtmeacgpebpfpbaaGreatMzLokV
import Derived.Test.YtmeacgpebpfpbaaGreatTyV4
import Derived.Test.YtmeacgpebpfpbaaGreatMzTyV5
import Derived.Test.YtmeacgpebpfpbaaGreatMzTyV7
import Derived.Test.YtmeacgpebpfpbaaGreatTyM2
import Derived.Test.YtmeacgpebpfpbaaGreatMzTyM3
import Derived.Test.YtmeacgpebpfpbaaGreatTyM5
import Derived.Deep.RegionHeld3
import Derived.Deep.RegionLaw
import Derived.Deep.Cut
import Derived.LoopTactic
import Derived.Lib.Hide
import Derived.Deep.QuietTactic
import Derived.BigQuiet
import Derived.Deep.RegionWith
import Derived.Handy
namespace Go.Proofs.YtmeacgpebpfpbaaGreat
open Go.RowKit
set_option linter.unusedVariables false
set_option linter.unusedSimpArgs false
set_option maxRecDepth 100000 in
set_option maxHeartbeats 16000000 in
theorem law_Push (f0 : Int) (L1 : List Dat) (A1 : Option Addr) (n1 c1 : Nat) (L2 : List Dat) (A2 : Option Addr) (n2 c2 : Nat) (L3 : List Dat) (A3 : Option Addr) (n3 c3 : Nat) (L4 : List Dat) (A4 : Option Addr) (n4 c4 : Nat) (x : Int) (g0 : Int) (g1 : Int) (g2 : Int) (g3 : Int) (g4 : ByteArray) (M5 : List Dat) (D5 : Option Addr) (m5 j5 : Nat) (g6_0 : Int) (g6_1 : Int) (g7 : Int) (g8_0 : Int) (g8_1 : Int) (g8_2 : Int) (W : World) (hl1 : Lies W (.l L1) [.slice A1 n1 c1]) (ht1 : ∀ x ∈ L1, Has tyEntity x) (hm1 : n1 ≤ 9223372036854775807) (hl2 : Lies W (.l L2) [.slice A2 n2 c2]) (ht2 : ∀ x ∈ L2, Has tySent x) (hm2 : n2 ≤ 9223372036854775807) (hl3 : Lies W (.l L3) [.slice A3 n3 c3]) (ht3 : ∀ x ∈ L3, Has tyLink x) (hm3 : n3 ≤ 9223372036854775807) (hl4 : Lies W (.l L4) [.slice A4 n4 c4]) (ht4 : ∀ x ∈ L4, Has tyOutgoing x) (hm4 : n4 ≤ 9223372036854775807) (hx1 : -9223372036854775808 ≤ x) (hx2 : x ≤ 9223372036854775807) (hsb4 : g4.size ≤ 9223372036854775807) (he5 : Lies W (.l M5) [.slice D5 m5 j5]) (hf5 : ∀ x ∈ M5, Has tyWire x) (hb5 : m5 ≤ 9223372036854775807) (HTE : Has tyMessage (.r [.i g0, .i g1, .i g2, .i g3, .s g4, .l M5, .r [.i g6_0, .i g6_1], .i g7, .r [.i g8_0, .i g8_1, .i g8_2]])) :
    Calls Tryz.prog 3 #[.agg #[.int .i64 f0, .slice A1 n1 c1, .slice A2 n2 c2, .slice A3 n3 c3, .slice A4 n4 c4], .int .i64 x, .agg #[.int .i64 g0, .int .i64 g1, .int .i64 g2, .int .i64 g3, .string g4, .slice D5 m5 j5, .int .i64 g6_0, .int .i64 g6_1, .int .i64 g7, .int .i64 g8_0, .int .i64 g8_1, .int .i64 g8_2]] W (GivesBool true W) := by
  have HT : Hid (Below W.heap.size W W) := Lib.hid (Below.refl _ _)
  have hca1 := Lib.hid hl1.count
  have Za1 := Lib.hid hl1
  have hca2 := Lib.hid hl2.count
  have Za2 := Lib.hid hl2
  have hca3 := Lib.hid hl3.count
  have Za3 := Lib.hid hl3
  have hca4 := Lib.hid hl4.count
  have Za4 := Lib.hid hl4
  clear hl1 hl2 hl3 hl4
  have hb : Below W.heap.size W (W.alloc (.cells #[.int .i64 f0, .slice A1 n1 c1, .slice A2 n2 c2, .slice A3 n3 c3, .slice A4 n4 c4] 27)) := (Below.refl _ _).alloc (Nat.le_refl _) _
  replace HT : Hid (Below W.heap.size W (W.alloc (.cells #[.int .i64 f0, .slice A1 n1 c1, .slice A2 n2 c2, .slice A3 n3 c3, .slice A4 n4 c4] 27))) := Lib.hid (HT.out.trans (hb.mono HT.out.size))
  clear hb
  have Ba : Hid (Box (W.heap.size) [.int .i64 f0, .slice A1 n1 c1, .slice A2 n2 c2, .slice A3 n3 c3, .slice A4 n4 c4] (W.alloc (.cells #[.int .i64 f0, .slice A1 n1 c1, .slice A2 n2 c2, .slice A3 n3 c3, .slice A4 n4 c4] 27))) := Lib.hid (by have h1 := Box.new W #[.int .i64 f0, .slice A1 n1 c1, .slice A2 n2 c2, .slice A3 n3 c3, .slice A4 n4 c4] 27; (try simp only [World.size_alloc] at h1); exact h1)
  have hcb5 := Lib.hid he5.count
  have Zb5 := Lib.hid he5
  clear he5
  have hb : Below (W.alloc (.cells #[.int .i64 f0, .slice A1 n1 c1, .slice A2 n2 c2, .slice A3 n3 c3, .slice A4 n4 c4] 27)).heap.size (W.alloc (.cells #[.int .i64 f0, .slice A1 n1 c1, .slice A2 n2 c2, .slice A3 n3 c3, .slice A4 n4 c4] 27)) ((W.alloc (.cells #[.int .i64 f0, .slice A1 n1 c1, .slice A2 n2 c2, .slice A3 n3 c3, .slice A4 n4 c4] 27)).alloc (.cells #[.int .i64 g0, .int .i64 g1, .int .i64 g2, .int .i64 g3, .string g4, .slice D5 m5 j5, .int .i64 g6_0, .int .i64 g6_1, .int .i64 g7, .int .i64 g8_0, .int .i64 g8_1, .int .i64 g8_2] 34)) := (Below.refl _ _).alloc (Nat.le_refl _) _
  replace Ba : Hid (Box (W.heap.size) [.int .i64 f0, .slice A1 n1 c1, .slice A2 n2 c2, .slice A3 n3 c3, .slice A4 n4 c4] ((W.alloc (.cells #[.int .i64 f0, .slice A1 n1 c1, .slice A2 n2 c2, .slice A3 n3 c3, .slice A4 n4 c4] 27)).alloc (.cells #[.int .i64 g0, .int .i64 g1, .int .i64 g2, .int .i64 g3, .string g4, .slice D5 m5 j5, .int .i64 g6_0, .int .i64 g6_1, .int .i64 g7, .int .i64 g8_0, .int .i64 g8_1, .int .i64 g8_2] 34))) := Lib.hid (Ba.out.below hb)
  replace HT : Hid (Below W.heap.size W ((W.alloc (.cells #[.int .i64 f0, .slice A1 n1 c1, .slice A2 n2 c2, .slice A3 n3 c3, .slice A4 n4 c4] 27)).alloc (.cells #[.int .i64 g0, .int .i64 g1, .int .i64 g2, .int .i64 g3, .string g4, .slice D5 m5 j5, .int .i64 g6_0, .int .i64 g6_1, .int .i64 g7, .int .i64 g8_0, .int .i64 g8_1, .int .i64 g8_2] 34))) := Lib.hid (HT.out.trans (hb.mono HT.out.size))
  clear hb
  have Bb : Hid (Box (W.heap.size + 1) [.int .i64 g0, .int .i64 g1, .int .i64 g2, .int .i64 g3, .string g4, .slice D5 m5 j5, .int .i64 g6_0, .int .i64 g6_1, .int .i64 g7, .int .i64 g8_0, .int .i64 g8_1, .int .i64 g8_2] ((W.alloc (.cells #[.int .i64 f0, .slice A1 n1 c1, .slice A2 n2 c2, .slice A3 n3 c3, .slice A4 n4 c4] 27)).alloc (.cells #[.int .i64 g0, .int .i64 g1, .int .i64 g2, .int .i64 g3, .string g4, .slice D5 m5 j5, .int .i64 g6_0, .int .i64 g6_1, .int .i64 g7, .int .i64 g8_0, .int .i64 g8_1, .int .i64 g8_2] 34))) := Lib.hid (by have h1 := Box.new (W.alloc (.cells #[.int .i64 f0, .slice A1 n1 c1, .slice A2 n2 c2, .slice A3 n3 c3, .slice A4 n4 c4] 27)) #[.int .i64 g0, .int .i64 g1, .int .i64 g2, .int .i64 g3, .string g4, .slice D5 m5 j5, .int .i64 g6_0, .int .i64 g6_1, .int .i64 g7, .int .i64 g8_0, .int .i64 g8_1, .int .i64 g8_2] 34; (try simp only [World.size_alloc] at h1); exact h1)
  rcases leftD_cases (.r [.i f0, .l L1, .l L2, .l L3, .l L4]) 1048576 with hbig | ⟨ra, hra, hr0a, hr1a, hbka⟩
  case inl =>
    have HBIG := Lib.hid hbig
    clear hbig
    go_enter Tryz.func3, Tryz.ntmps3
    obtain ⟨za0, za1, za2, za3, za4⟩ := Ba.out.c5
    go_wp2_with fail
    refine (szVat f0 L1 A1 n1 c1 L2 A2 n2 c2 L3 A3 n3 c3 L4 A4 n4 c4 (1048576) _ (by omega) (by omega) (Za1.out.below HT.out) ht1 hm1 (Za2.out.below HT.out) ht2 hm2 (Za3.out.below HT.out) ht3 hm3 (Za4.out.below HT.out) ht4 hm4).mono ?_
    rintro e w1 ⟨rfl, hb⟩
    rw [HBIG.out]
    clear za0 za1 za2 za3 za4
    replace Ba : Hid (Box (W.heap.size) [.int .i64 f0, .slice A1 n1 c1, .slice A2 n2 c2, .slice A3 n3 c3, .slice A4 n4 c4] w1) := Lib.hid (Ba.out.below hb)
    replace Bb : Hid (Box (W.heap.size + 1) [.int .i64 g0, .int .i64 g1, .int .i64 g2, .int .i64 g3, .string g4, .slice D5 m5 j5, .int .i64 g6_0, .int .i64 g6_1, .int .i64 g7, .int .i64 g8_0, .int .i64 g8_1, .int .i64 g8_2] w1) := Lib.hid (Bb.out.below hb)
    replace HT : Hid (Below W.heap.size W w1) := Lib.hid (HT.out.trans (hb.mono HT.out.size))
    have hsw1 : W.heap.size + 1 + 1 ≤ w1.heap.size := (by have h1 := hb.size; (try simp only [World.size_alloc, World.size_drew] at h1); exact h1)
    clear hb
    go_wp2_with fail
    go_ret
    exact GivesBool.ret HT.out
  case inr =>
    have HRa := Lib.hid hra
    clear hra
    have hqa1 : (Dat.l L1).bulk ≤ 1099511627776 := by simp only [Dat.bulk, bulkAll] at hbka ⊢; omega
    have hwa1 : (Dat.l L1).bulk ≤ 549755813888 := by simp only [Dat.bulk, bulkAll] at hbka ⊢; omega
    have hva1 : (Dat.l L1).bulk ≤ 1048576 := by simp only [Dat.bulk, bulkAll] at hbka ⊢; omega
    have hna1 : n1 ≤ 1048576 := by have h1 := hca1.out; have h2 := hva1; simp only [Dat.bulk] at h2; omega
    have hN1 : n1 ≤ 1099511627776 := by omega
    have hka1 : (cntAll L1 : Int) ≤ 16777216 := by have h1 := cnt_few (K := 16) (B := 1048576) (t := tyEntity) (by decide) ht1 hva1; omega
    have hqa2 : (Dat.l L2).bulk ≤ 1099511627776 := by simp only [Dat.bulk, bulkAll] at hbka ⊢; omega
    have hwa2 : (Dat.l L2).bulk ≤ 549755813888 := by simp only [Dat.bulk, bulkAll] at hbka ⊢; omega
    have hva2 : (Dat.l L2).bulk ≤ 1048576 := by simp only [Dat.bulk, bulkAll] at hbka ⊢; omega
    have hna2 : n2 ≤ 1048576 := by have h1 := hca2.out; have h2 := hva2; simp only [Dat.bulk] at h2; omega
    have hN2 : n2 ≤ 1099511627776 := by omega
    have hka2 : (cntAll L2 : Int) ≤ 16777216 := by have h1 := cnt_few (K := 16) (B := 1048576) (t := tySent) (by decide) ht2 hva2; omega
    have hqa3 : (Dat.l L3).bulk ≤ 1099511627776 := by simp only [Dat.bulk, bulkAll] at hbka ⊢; omega
    have hwa3 : (Dat.l L3).bulk ≤ 549755813888 := by simp only [Dat.bulk, bulkAll] at hbka ⊢; omega
    have hva3 : (Dat.l L3).bulk ≤ 1048576 := by simp only [Dat.bulk, bulkAll] at hbka ⊢; omega
    have hna3 : n3 ≤ 1048576 := by have h1 := hca3.out; have h2 := hva3; simp only [Dat.bulk] at h2; omega
    have hN3 : n3 ≤ 1099511627776 := by omega
    have hka3 : (cntAll L3 : Int) ≤ 16777216 := by have h1 := cnt_few (K := 16) (B := 1048576) (t := tyLink) (by decide) ht3 hva3; omega
    have hqa4 : (Dat.l L4).bulk ≤ 1099511627776 := by simp only [Dat.bulk, bulkAll] at hbka ⊢; omega
    have hwa4 : (Dat.l L4).bulk ≤ 549755813888 := by simp only [Dat.bulk, bulkAll] at hbka ⊢; omega
    have hva4 : (Dat.l L4).bulk ≤ 1048576 := by simp only [Dat.bulk, bulkAll] at hbka ⊢; omega
    have hna4 : n4 ≤ 1048576 := by have h1 := hca4.out; have h2 := hva4; simp only [Dat.bulk] at h2; omega
    have hN4 : n4 ≤ 1099511627776 := by omega
    have hka4 : (cntAll L4 : Int) ≤ 16777216 := by have h1 := cnt_few (K := 16) (B := 1048576) (t := tyOutgoing) (by decide) ht4 hva4; omega
    rcases leftD_cases (.r [.i g0, .i g1, .i g2, .i g3, .s g4, .l M5, .r [.i g6_0, .i g6_1], .i g7, .r [.i g8_0, .i g8_1, .i g8_2]]) ra with hbig | ⟨rb, hrb, hr0b, hr1b, hbkb⟩
    case inl =>
      have HBIG := Lib.hid hbig
      clear hbig
      go_enter Tryz.func3, Tryz.ntmps3
      obtain ⟨za0, za1, za2, za3, za4⟩ := Ba.out.c5
      go_wp2_with fail
      refine (szVat f0 L1 A1 n1 c1 L2 A2 n2 c2 L3 A3 n3 c3 L4 A4 n4 c4 (1048576) _ (by omega) (by omega) (Za1.out.below HT.out) ht1 hm1 (Za2.out.below HT.out) ht2 hm2 (Za3.out.below HT.out) ht3 hm3 (Za4.out.below HT.out) ht4 hm4).mono ?_
      rintro e w1 ⟨rfl, hb⟩
      rw [HRa.out]
      clear za0 za1 za2 za3 za4
      replace Ba : Hid (Box (W.heap.size) [.int .i64 f0, .slice A1 n1 c1, .slice A2 n2 c2, .slice A3 n3 c3, .slice A4 n4 c4] w1) := Lib.hid (Ba.out.below hb)
      replace Bb : Hid (Box (W.heap.size + 1) [.int .i64 g0, .int .i64 g1, .int .i64 g2, .int .i64 g3, .string g4, .slice D5 m5 j5, .int .i64 g6_0, .int .i64 g6_1, .int .i64 g7, .int .i64 g8_0, .int .i64 g8_1, .int .i64 g8_2] w1) := Lib.hid (Bb.out.below hb)
      replace HT : Hid (Below W.heap.size W w1) := Lib.hid (HT.out.trans (hb.mono HT.out.size))
      have hsw1 : W.heap.size + 1 + 1 ≤ w1.heap.size := (by have h1 := hb.size; (try simp only [World.size_alloc, World.size_drew] at h1); exact h1)
      clear hb
      obtain ⟨zb0, zb1, zb2, zb3, zb4, zb5, zb6, zb7, zb8, zb9, zb10, zb11⟩ := Bb.out.c12
      go_wp2_with fail
      refine (szMessage g0 g1 g2 g3 g4 M5 D5 m5 j5 g6_0 g6_1 g7 g8_0 g8_1 g8_2 (ra) _ (by omega) (by omega) hsb4 (Zb5.out.below HT.out) hf5 hb5).mono ?_
      rintro e w2 ⟨rfl, hb⟩
      rw [HBIG.out]
      clear zb0 zb1 zb2 zb3 zb4 zb5 zb6 zb7 zb8 zb9 zb10 zb11
      replace Ba : Hid (Box (W.heap.size) [.int .i64 f0, .slice A1 n1 c1, .slice A2 n2 c2, .slice A3 n3 c3, .slice A4 n4 c4] w2) := Lib.hid (Ba.out.below hb)
      replace Bb : Hid (Box (W.heap.size + 1) [.int .i64 g0, .int .i64 g1, .int .i64 g2, .int .i64 g3, .string g4, .slice D5 m5 j5, .int .i64 g6_0, .int .i64 g6_1, .int .i64 g7, .int .i64 g8_0, .int .i64 g8_1, .int .i64 g8_2] w2) := Lib.hid (Bb.out.below hb)
      replace HT : Hid (Below W.heap.size W w2) := Lib.hid (HT.out.trans (hb.mono HT.out.size))
      have hsw2 : w1.heap.size ≤ w2.heap.size := (by have h1 := hb.size; (try simp only [World.size_alloc, World.size_drew] at h1); exact h1)
      clear hb
      go_wp2_with fail
      go_ret
      exact GivesBool.ret HT.out
    case inr =>
      have HRb := Lib.hid hrb
      clear hrb
      have hqb5 : (Dat.l M5).bulk ≤ 1099511627776 := by simp only [Dat.bulk, bulkAll] at hbkb ⊢; omega
      have hwb5 : (Dat.l M5).bulk ≤ 549755813888 := by simp only [Dat.bulk, bulkAll] at hbkb ⊢; omega
      have hvb5 : (Dat.l M5).bulk ≤ 1048576 := by simp only [Dat.bulk, bulkAll] at hbkb ⊢; omega
      have hnb5 : m5 ≤ 1048576 := by have h1 := hcb5.out; have h2 := hvb5; simp only [Dat.bulk] at h2; omega
      have hP5 : m5 ≤ 1099511627776 := by omega
      have hkb5 : (cntAll M5 : Int) ≤ 16777216 := by have h1 := cnt_few (K := 16) (B := 1048576) (t := tyWire) (by decide) hf5 hvb5; omega
      obtain ⟨N4, hN4e⟩ : ∃ N, pushL (L3.any (upIs x)) L4 (.r [.i x, .r [.i g0, .i g1, .i g2, .i g3, .s g4, .l M5, .r [.i g6_0, .i g6_1], .i g7, .r [.i g8_0, .i g8_1, .i g8_2]]]) = N := ⟨_, rfl⟩
      obtain ⟨m4, hm4e⟩ : ∃ m, pushN (L3.any (upIs x)) n4 = m := ⟨_, rfl⟩
      have hbe : (.r [.i g0, .i g1, .i g2, .i g3, .s g4, .l M5, .r [.i g6_0, .i g6_1], .i g7, .r [.i g8_0, .i g8_1, .i g8_2]] : Dat).bulk ≤ 1048576 := by omega
      have hbo : (.r [.i x, .r [.i g0, .i g1, .i g2, .i g3, .s g4, .l M5, .r [.i g6_0, .i g6_1], .i g7, .r [.i g8_0, .i g8_1, .i g8_2]]] : Dat).bulk ≤ 2097152 := by have h1 := hbe; simp only [Dat.bulk, bulkAll] at h1 ⊢; omega
      have hTe : Has tyOutgoing (.r [.i x, .r [.i g0, .i g1, .i g2, .i g3, .s g4, .l M5, .r [.i g6_0, .i g6_1], .i g7, .r [.i g8_0, .i g8_1, .i g8_2]]]) := by
        rw [tyOutgoing, Has]
        exact ⟨_, rfl, by rw [HasAll]; exact ⟨_, _, rfl, by rw [Has]; exact ⟨x, rfl, hx1, hx2⟩, by rw [HasAll]; exact ⟨_, _, rfl, HTE, by rw [HasAll]⟩⟩⟩
      have hcn : N4.length = m4 := by rw [← hN4e, ← hm4e, pushL, pushN]; split <;> simp [hca4.out]
      have htN4 : ∀ x ∈ N4, Has tyOutgoing x := by intro y hy; rw [← hN4e, pushL] at hy; split at hy; rcases List.mem_append.1 hy with h | h; exact ht4 y h; rw [List.mem_singleton.1 h]; exact hTe; exact ht4 y hy
      have hm4b : m4 ≤ 1048577 := by rw [← hm4e, pushN]; split <;> omega
      have hbN4 : (Dat.l N4).bulk ≤ 4194304 := by rw [← hN4e, pushL]; simp only [Dat.bulk] at hva4 ⊢; split; rw [List.length_append, bulkAll_append]; simp only [bulkAll, List.length_singleton]; omega; omega
      have hmN4 : m4 ≤ 9223372036854775807 := by omega
      have hNN4 : m4 ≤ 1099511627776 := by omega
      have hkN4 : (cntAll N4 : Int) ≤ 67108864 := by have h1 := cnt_few (K := 16) (B := 4194304) (t := tyOutgoing) (by decide) htN4 hbN4; omega
      have CSP : Hid (∀ (A1 : Option Addr) (c1 : Nat) (A2 : Option Addr) (c2 : Nat) (A3 : Option Addr) (c3 : Nat) (A4 : Option Addr) (c4 : Nat) (D5 : Option Addr) (j5 : Nat) (w : World), Lies w (.l L1) [.slice A1 n1 c1] → Lies w (.l L2) [.slice A2 n2 c2] → Lies w (.l L3) [.slice A3 n3 c3] → Lies w (.l L4) [.slice A4 n4 c4] → Lies w (.l M5) [.slice D5 m5 j5] → Calls Tryz.prog 6 #[.agg #[.int .i64 f0, .slice A1 n1 c1, .slice A2 n2 c2, .slice A3 n3 c3, .slice A4 n4 c4], .int .i64 x, .agg #[.int .i64 g0, .int .i64 g1, .int .i64 g2, .int .i64 g3, .string g4, .slice D5 m5 j5, .int .i64 g6_0, .int .i64 g6_1, .int .i64 g7, .int .i64 g8_0, .int .i64 g8_1, .int .i64 g8_2]] w (GivesVt f0 L1 n1 L2 n2 L3 n3 N4 m4 w)) := Lib.hid (fun A1 c1 A2 c2 A3 c3 A4 c4 D5 j5 w p1 p2 p3 p4 q5 => by rw [← hN4e, ← hm4e]; exact specPushE f0 L1 A1 n1 c1 L2 A2 n2 c2 L3 A3 n3 c3 L4 A4 n4 c4 x g0 g1 g2 g3 g4 M5 D5 m5 j5 g6_0 g6_1 g7 g8_0 g8_1 g8_2 w p1 ht1 hwa1 p2 ht2 hwa2 p3 ht3 hwa3 p4 ht4 hwa4 q5 hf5 hwb5)
      have CIM : Hid (∀ (A1 : Option Addr) (c1 : Nat) (A2 : Option Addr) (c2 : Nat) (A3 : Option Addr) (c3 : Nat) (A4 : Option Addr) (c4 : Nat) (D5 : Option Addr) (j5 : Nat) (w : World), Lies w (.l L1) [.slice A1 n1 c1] → Lies w (.l L2) [.slice A2 n2 c2] → Lies w (.l L3) [.slice A3 n3 c3] → Lies w (.l L4) [.slice A4 n4 c4] → Lies w (.l M5) [.slice D5 m5 j5] → Calls Tryz.prog 9 #[.agg #[.int .i64 f0, .slice A1 n1 c1, .slice A2 n2 c2, .slice A3 n3 c3, .slice A4 n4 c4], .int .i64 x, .agg #[.int .i64 g0, .int .i64 g1, .int .i64 g2, .int .i64 g3, .string g4, .slice D5 m5 j5, .int .i64 g6_0, .int .i64 g6_1, .int .i64 g7, .int .i64 g8_0, .int .i64 g8_1, .int .i64 g8_2]] w (GivesVt f0 L1 n1 L2 n2 L3 n3 N4 m4 w)) := Lib.hid (fun A1 c1 A2 c2 A3 c3 A4 c4 D5 j5 w p1 p2 p3 p4 q5 => by rw [← hN4e, ← hm4e]; exact implPushE f0 L1 A1 n1 c1 L2 A2 n2 c2 L3 A3 n3 c3 L4 A4 n4 c4 x g0 g1 g2 g3 g4 M5 D5 m5 j5 g6_0 g6_1 g7 g8_0 g8_1 g8_2 w p1 ht1 hwa1 p2 ht2 hwa2 p3 ht3 hwa3 p4 ht4 hwa4 q5 hf5 hwb5)
      have HCN := Lib.hid hcn
      clear hN4e hm4e hcn hTe HTE
      go_enter Tryz.func3, Tryz.ntmps3
      obtain ⟨za0, za1, za2, za3, za4⟩ := Ba.out.c5
      go_wp2_with fail
      refine (szVat f0 L1 A1 n1 c1 L2 A2 n2 c2 L3 A3 n3 c3 L4 A4 n4 c4 (1048576) _ (by omega) (by omega) (Za1.out.below HT.out) ht1 hm1 (Za2.out.below HT.out) ht2 hm2 (Za3.out.below HT.out) ht3 hm3 (Za4.out.below HT.out) ht4 hm4).mono ?_
      rintro e w1 ⟨rfl, hb⟩
      rw [HRa.out]
      clear za0 za1 za2 za3 za4
      replace Ba : Hid (Box (W.heap.size) [.int .i64 f0, .slice A1 n1 c1, .slice A2 n2 c2, .slice A3 n3 c3, .slice A4 n4 c4] w1) := Lib.hid (Ba.out.below hb)
      replace Bb : Hid (Box (W.heap.size + 1) [.int .i64 g0, .int .i64 g1, .int .i64 g2, .int .i64 g3, .string g4, .slice D5 m5 j5, .int .i64 g6_0, .int .i64 g6_1, .int .i64 g7, .int .i64 g8_0, .int .i64 g8_1, .int .i64 g8_2] w1) := Lib.hid (Bb.out.below hb)
      replace HT : Hid (Below W.heap.size W w1) := Lib.hid (HT.out.trans (hb.mono HT.out.size))
      have hsw1 : W.heap.size + 1 + 1 ≤ w1.heap.size := (by have h1 := hb.size; (try simp only [World.size_alloc, World.size_drew] at h1); exact h1)
      clear hb
      obtain ⟨zb0, zb1, zb2, zb3, zb4, zb5, zb6, zb7, zb8, zb9, zb10, zb11⟩ := Bb.out.c12
      go_wp2_with fail
      refine (szMessage g0 g1 g2 g3 g4 M5 D5 m5 j5 g6_0 g6_1 g7 g8_0 g8_1 g8_2 (ra) _ (by omega) (by omega) hsb4 (Zb5.out.below HT.out) hf5 hb5).mono ?_
      rintro e w2 ⟨rfl, hb⟩
      rw [HRb.out]
      clear zb0 zb1 zb2 zb3 zb4 zb5 zb6 zb7 zb8 zb9 zb10 zb11
      replace Ba : Hid (Box (W.heap.size) [.int .i64 f0, .slice A1 n1 c1, .slice A2 n2 c2, .slice A3 n3 c3, .slice A4 n4 c4] w2) := Lib.hid (Ba.out.below hb)
      replace Bb : Hid (Box (W.heap.size + 1) [.int .i64 g0, .int .i64 g1, .int .i64 g2, .int .i64 g3, .string g4, .slice D5 m5 j5, .int .i64 g6_0, .int .i64 g6_1, .int .i64 g7, .int .i64 g8_0, .int .i64 g8_1, .int .i64 g8_2] w2) := Lib.hid (Bb.out.below hb)
      replace HT : Hid (Below W.heap.size W w2) := Lib.hid (HT.out.trans (hb.mono HT.out.size))
      have hsw2 : w1.heap.size ≤ w2.heap.size := (by have h1 := hb.size; (try simp only [World.size_alloc, World.size_drew] at h1); exact h1)
      clear hb
      go_upto_region 8 with (fail)
      have HS : Hid (∀ w' : World, Below w2.heap.size w2 w' → ((w'.cell? ⟨W.heap.size, 0, none⟩ = some (.int .i64 f0) ∧ w'.cell? ⟨W.heap.size, 1, none⟩ = some (.slice A1 n1 c1) ∧ w'.cell? ⟨W.heap.size, 2, none⟩ = some (.slice A2 n2 c2) ∧ w'.cell? ⟨W.heap.size, 3, none⟩ = some (.slice A3 n3 c3) ∧ w'.cell? ⟨W.heap.size, 4, none⟩ = some (.slice A4 n4 c4)) ∧ (w'.cell? ⟨W.heap.size + 1, 0, none⟩ = some (.int .i64 g0) ∧ w'.cell? ⟨W.heap.size + 1, 1, none⟩ = some (.int .i64 g1) ∧ w'.cell? ⟨W.heap.size + 1, 2, none⟩ = some (.int .i64 g2) ∧ w'.cell? ⟨W.heap.size + 1, 3, none⟩ = some (.int .i64 g3) ∧ w'.cell? ⟨W.heap.size + 1, 4, none⟩ = some (.string g4) ∧ w'.cell? ⟨W.heap.size + 1, 5, none⟩ = some (.slice D5 m5 j5) ∧ w'.cell? ⟨W.heap.size + 1, 6, none⟩ = some (.int .i64 g6_0) ∧ w'.cell? ⟨W.heap.size + 1, 7, none⟩ = some (.int .i64 g6_1) ∧ w'.cell? ⟨W.heap.size + 1, 8, none⟩ = some (.int .i64 g7) ∧ w'.cell? ⟨W.heap.size + 1, 9, none⟩ = some (.int .i64 g8_0) ∧ w'.cell? ⟨W.heap.size + 1, 10, none⟩ = some (.int .i64 g8_1) ∧ w'.cell? ⟨W.heap.size + 1, 11, none⟩ = some (.int .i64 g8_2)))) := Lib.hid (fun w' hb => ⟨(Ba.out.below hb).c5, (Bb.out.below hb).c12⟩)
      go_cut [8] from 26 to 31 (fun s8 wq => ∃ (g : Nat) (wA1 : Option Addr) (wc1 : Nat) (wA2 : Option Addr) (wc2 : Nat) (wA3 : Option Addr) (wc3 : Nat) (wA4 : Option Addr) (wc4 : Nat), s8 = .pointer (some ⟨g, 0, none⟩) ∧ Zx g [.int .i64 f0, .slice wA1 n1 wc1, .slice wA2 n2 wc2, .slice wA3 n3 wc3, .slice wA4 m4 wc4] wq ∧ VatX (fun b => w2.heap.size ≤ b ∧ b ≠ g) wq L1 wA1 n1 wc1 L2 wA2 n2 wc2 L3 wA3 n3 wc3 N4 wA4 m4 wc4 ∧ Below w2.heap.size w2 wq)
      case first =>
        have Ja1 := Lib.hid (Za1.out.below HT.out)
        have Ja2 := Lib.hid (Za2.out.below HT.out)
        have Ja3 := Lib.hid (Za3.out.below HT.out)
        have Ja4 := Lib.hid (Za4.out.below HT.out)
        have Jb5 := Lib.hid (Zb5.out.below HT.out)
        have HB : Hid (Below w2.heap.size w2 w2.drew) := Lib.hid (Below.refl _ _).drew
        refine wp_region_held_drew (S := (fun w' => (w'.cell? ⟨W.heap.size, 0, none⟩ = some (.int .i64 f0) ∧ w'.cell? ⟨W.heap.size, 1, none⟩ = some (.slice A1 n1 c1) ∧ w'.cell? ⟨W.heap.size, 2, none⟩ = some (.slice A2 n2 c2) ∧ w'.cell? ⟨W.heap.size, 3, none⟩ = some (.slice A3 n3 c3) ∧ w'.cell? ⟨W.heap.size, 4, none⟩ = some (.slice A4 n4 c4)) ∧ (w'.cell? ⟨W.heap.size + 1, 0, none⟩ = some (.int .i64 g0) ∧ w'.cell? ⟨W.heap.size + 1, 1, none⟩ = some (.int .i64 g1) ∧ w'.cell? ⟨W.heap.size + 1, 2, none⟩ = some (.int .i64 g2) ∧ w'.cell? ⟨W.heap.size + 1, 3, none⟩ = some (.int .i64 g3) ∧ w'.cell? ⟨W.heap.size + 1, 4, none⟩ = some (.string g4) ∧ w'.cell? ⟨W.heap.size + 1, 5, none⟩ = some (.slice D5 m5 j5) ∧ w'.cell? ⟨W.heap.size + 1, 6, none⟩ = some (.int .i64 g6_0) ∧ w'.cell? ⟨W.heap.size + 1, 7, none⟩ = some (.int .i64 g6_1) ∧ w'.cell? ⟨W.heap.size + 1, 8, none⟩ = some (.int .i64 g7) ∧ w'.cell? ⟨W.heap.size + 1, 9, none⟩ = some (.int .i64 g8_0) ∧ w'.cell? ⟨W.heap.size + 1, 10, none⟩ = some (.int .i64 g8_1) ∧ w'.cell? ⟨W.heap.size + 1, 11, none⟩ = some (.int .i64 g8_2)))) (by kernel_rfl) ?_ (fun hH0 => ?_)
        · exact HS.out _ HB.out
        refine wpAnyH_take (i := 0) (v := ?_) rfl (by kernel_rfl) (by kernel_rfl) (by kernel_rfl) (fun _ _ _ h => h) (Or.inl ⟨by rfl, ?_⟩) hH0 ?_
        rotate_left
        · intro w hSw; (try dsimp only at hSw); go_simp; (try with_reducible rfl)
        simp only [Act.put, List.setIfInBounds_toArray, List.set_cons_zero, List.set_cons_succ]
        refine wpAnyH_take (i := 2) (v := ?_) rfl (by kernel_rfl) (by kernel_rfl) (by kernel_rfl) (fun _ _ _ h => h) (Or.inl ⟨by rfl, ?_⟩) hH0 ?_
        rotate_left
        · intro w hSw; (try dsimp only at hSw); go_simp; (try with_reducible rfl)
        simp only [Act.put, List.setIfInBounds_toArray, List.set_cons_zero, List.set_cons_succ]
        refine wpAnyH_take (i := 3) (v := ?_) rfl (by kernel_rfl) (by kernel_rfl) (by kernel_rfl) (fun _ _ _ h => h) (Or.inl ⟨by rfl, ?_⟩) hH0 ?_
        rotate_left
        · intro w hSw; (try dsimp only at hSw); go_simp; (try with_reducible rfl)
        simp only [Act.put, List.setIfInBounds_toArray, List.set_cons_zero, List.set_cons_succ]
        refine wpAnyH_ready (rs := [1, 6]) (by kernel_rfl) (by simp) ?_
        refine AllReadyH.cons rfl (fun K hK => ?_) ?_
        · (go_simp; go_at_call 7; (with_reducible refine (toVat f0 L1 A1 n1 c1 L2 A2 n2 c2 L3 A3 n3 c3 L4 A4 n4 c4 _ (Ja1.out.below HB.out) ht1 hqa1 (Ja2.out.below HB.out) ht2 hqa2 (Ja3.out.below HB.out) ht3 hqa3 (Ja4.out.below HB.out) ht4 hqa4).mono ?_); rintro e w1q ⟨yaA1, yac1, yaA2, yac2, yaA3, yac3, yaA4, yac4, a1, a2, a3, rfl, hO1, hO2, hO3, hO4, -, -, -, -, hb⟩; (have hz1q := hb.size); (try simp only [World.size_alloc, World.size_drew] at hz1q); (have hy1q := HB.out.size); (try simp only [World.size_alloc, World.size_drew] at hy1q); (have Ya1 := Lib.hid hO1.lies); (have Ya2 := Lib.hid hO2.lies); (have Ya3 := Lib.hid hO3.lies); (have Ya4 := Lib.hid hO4.lies); (replace HB := Lib.hid (HB.out.trans (hb.mono HB.out.size))); clear hb hO1 hO2 hO3 hO4; (try (go_wp2_with fail)))
          refine hK.out _ _ ?_ (fun hH1 => ?_)
          · exact HS.out _ HB.out
          clear hK K hH0
          (try simp only [Act.put, List.setIfInBounds_toArray, List.set_cons_zero, List.set_cons_succ])
          refine wpAnyH_ready (rs := [4, 6]) (by kernel_rfl) (by simp) ?_
          refine AllReadyH.cons rfl (fun K hK => ?_) ?_
          · (go_simp; go_at_call 8; (with_reducible refine (toMessage g0 g1 g2 g3 g4 M5 D5 m5 j5 g6_0 g6_1 g7 g8_0 g8_1 g8_2 _ (Jb5.out.below HB.out) hf5 hqb5).mono ?_); rintro e w2q ⟨ybA5, ybc5, rfl, hO5, hb⟩; (have hz2q := hb.size); (try simp only [World.size_alloc, World.size_drew] at hz2q); (have hy2q := HB.out.size); (try simp only [World.size_alloc, World.size_drew] at hy2q); (replace Ya1 := Lib.hid (Ya1.out.below hb)); (replace Ya2 := Lib.hid (Ya2.out.below hb)); (replace Ya3 := Lib.hid (Ya3.out.below hb)); (replace Ya4 := Lib.hid (Ya4.out.below hb)); (have Yb5 := Lib.hid hO5.lies); (replace HB := Lib.hid (HB.out.trans (hb.mono HB.out.size))); clear hb hO5; (try (go_wp2_with fail)))
            refine hK.out _ _ ?_ (fun hH2 => ?_)
            · exact HS.out _ HB.out
            clear hK K hH1
            (try simp only [Act.put, List.setIfInBounds_toArray, List.set_cons_zero, List.set_cons_succ])
            refine wpAnyH_ready (rs := [5, 6]) (by kernel_rfl) (by simp) ?_
            refine AllReadyH.cons rfl (fun K hK => ?_) ?_
            · (go_simp; go_at_call 6; (with_reducible refine (CSP.out yaA1 yac1 yaA2 yac2 yaA3 yac3 yaA4 yac4 ybA5 ybc5 _ Ya1.out Ya2.out Ya3.out Ya4.out Yb5.out).mono ?_); rintro e w3q ⟨wA1, wc1, wA2, wc2, wA3, wc3, wA4, wc4, rfl, hV, hb⟩; (have hz3q := hb.size); (try simp only [World.size_alloc, World.size_drew] at hz3q); (have hy3q := HB.out.size); (try simp only [World.size_alloc, World.size_drew] at hy3q); (replace Ya1 := Lib.hid (Ya1.out.below hb)); (replace Ya2 := Lib.hid (Ya2.out.below hb)); (replace Ya3 := Lib.hid (Ya3.out.below hb)); (replace Ya4 := Lib.hid (Ya4.out.below hb)); (replace Yb5 := Lib.hid (Yb5.out.below hb)); (have HV9 := Lib.hid hV); (replace HB := Lib.hid (HB.out.trans (hb.mono HB.out.size))); clear hb hV; (try (go_wp2_with fail)))
              refine hK.out _ _ ?_ (fun hH3 => ?_)
              · exact HS.out _ HB.out
              clear hK K hH2
              (try simp only [Act.put, List.setIfInBounds_toArray, List.set_cons_zero, List.set_cons_succ])
              refine wpAnyH_ready (rs := [6]) (by kernel_rfl) (by simp) ?_
              refine AllReadyH.cons rfl (fun K hK => ?_) ?_
              · (go_simp; (have Z : Hid (Zx (w3q.heap.size) [.int .i64 0, .slice none 0 0, .slice none 0 0, .slice none 0 0, .slice none 0 0] (w3q.alloc (.cells #[.int .i64 0, .slice none 0 0, .slice none 0 0, .slice none 0 0, .slice none 0 0] 42))) := Lib.hid (by have h1 := Zx.new w3q #[.int .i64 0, .slice none 0 0, .slice none 0 0, .slice none 0 0, .slice none 0 0] 42; (try simp only [World.size_alloc, World.size_drew] at h1); exact h1)); (replace Ya1 := Lib.hid (Ya1.out.below ((Below.refl _ _).alloc (Nat.le_refl _) (.cells #[.int .i64 0, .slice none 0 0, .slice none 0 0, .slice none 0 0, .slice none 0 0] 42)))); (replace Ya2 := Lib.hid (Ya2.out.below ((Below.refl _ _).alloc (Nat.le_refl _) (.cells #[.int .i64 0, .slice none 0 0, .slice none 0 0, .slice none 0 0, .slice none 0 0] 42)))); (replace Ya3 := Lib.hid (Ya3.out.below ((Below.refl _ _).alloc (Nat.le_refl _) (.cells #[.int .i64 0, .slice none 0 0, .slice none 0 0, .slice none 0 0, .slice none 0 0] 42)))); (replace Ya4 := Lib.hid (Ya4.out.below ((Below.refl _ _).alloc (Nat.le_refl _) (.cells #[.int .i64 0, .slice none 0 0, .slice none 0 0, .slice none 0 0, .slice none 0 0] 42)))); (replace Yb5 := Lib.hid (Yb5.out.below ((Below.refl _ _).alloc (Nat.le_refl _) (.cells #[.int .i64 0, .slice none 0 0, .slice none 0 0, .slice none 0 0, .slice none 0 0] 42)))); (have HV9p := HV9); (replace HV9 := Lib.hid (HV9.out.below ((Below.refl _ _).alloc (Nat.le_refl _) (.cells #[.int .i64 0, .slice none 0 0, .slice none 0 0, .slice none 0 0, .slice none 0 0] 42)))); (have HBp := HB); (have hg0 : w2.heap.size ≤ w3q.heap.size := (by have h1 := HB.out.size; (try simp only [World.size_alloc, World.size_drew] at h1); (try simp only [World.size_alloc, World.size_drew]); first | exact h1 | omega)); (replace HB := Lib.hid (HB.out.alloc HB.out.size (.cells #[.int .i64 0, .slice none 0 0, .slice none 0 0, .slice none 0 0, .slice none 0 0] 42))); (obtain ⟨zq0, zq1, zq2, zq3, zq4, fq⟩ := Z.out.d5))
                refine hK.out _ _ ?_ (fun hH4 => ?_)
                · exact HS.out _ HB.out
                clear hK K hH3
                (try simp only [Act.put, List.setIfInBounds_toArray, List.set_cons_zero, List.set_cons_succ])
                refine wpAnyH_ready (rs := [7]) (by kernel_rfl) (by simp) ?_
                refine AllReadyH.cons rfl (fun K hK => ?_) ?_
                · go_simp
                  refine hK.out _ _ ?_ (fun hH5 => ?_)
                  · exact HS.out _ (HBp.out.alloc HBp.out.size _)
                  clear hK K hH4
                  (try simp only [Act.put, List.setIfInBounds_toArray, List.set_cons_zero, List.set_cons_succ])
                  refine wpAnyH_done (by kernel_rfl) ?_ _
                  go_wp2_with fail
                  go_meet
                  exact ⟨_, _, _, _, _, _, _, _, _, rfl, Zx.new _ #[.int .i64 f0, .slice wA1 n1 wc1, .slice wA2 n2 wc2, .slice wA3 n3 wc3, .slice wA4 m4 wc4] _, (HV9p.out.below ((Below.refl _ _).alloc (Nat.le_refl _) _)).mono (fun b hb => ⟨by have h1 := hb.1; (try simp only [World.size_alloc, World.size_drew] at h1); omega, by have h1 := hb.2; omega⟩), HBp.out.alloc HBp.out.size _⟩
                exact AllReadyH.nil
              exact AllReadyH.nil
            refine AllReadyH.cons rfl (fun K hK => ?_) ?_
            · (go_simp; (have Z : Hid (Zx (w2q.heap.size) [.int .i64 0, .slice none 0 0, .slice none 0 0, .slice none 0 0, .slice none 0 0] (w2q.alloc (.cells #[.int .i64 0, .slice none 0 0, .slice none 0 0, .slice none 0 0, .slice none 0 0] 42))) := Lib.hid (by have h1 := Zx.new w2q #[.int .i64 0, .slice none 0 0, .slice none 0 0, .slice none 0 0, .slice none 0 0] 42; (try simp only [World.size_alloc, World.size_drew] at h1); exact h1)); (replace Ya1 := Lib.hid (Ya1.out.below ((Below.refl _ _).alloc (Nat.le_refl _) (.cells #[.int .i64 0, .slice none 0 0, .slice none 0 0, .slice none 0 0, .slice none 0 0] 42)))); (replace Ya2 := Lib.hid (Ya2.out.below ((Below.refl _ _).alloc (Nat.le_refl _) (.cells #[.int .i64 0, .slice none 0 0, .slice none 0 0, .slice none 0 0, .slice none 0 0] 42)))); (replace Ya3 := Lib.hid (Ya3.out.below ((Below.refl _ _).alloc (Nat.le_refl _) (.cells #[.int .i64 0, .slice none 0 0, .slice none 0 0, .slice none 0 0, .slice none 0 0] 42)))); (replace Ya4 := Lib.hid (Ya4.out.below ((Below.refl _ _).alloc (Nat.le_refl _) (.cells #[.int .i64 0, .slice none 0 0, .slice none 0 0, .slice none 0 0, .slice none 0 0] 42)))); (replace Yb5 := Lib.hid (Yb5.out.below ((Below.refl _ _).alloc (Nat.le_refl _) (.cells #[.int .i64 0, .slice none 0 0, .slice none 0 0, .slice none 0 0, .slice none 0 0] 42)))); (have HBp := HB); (have hg0 : w2.heap.size ≤ w2q.heap.size := (by have h1 := HB.out.size; (try simp only [World.size_alloc, World.size_drew] at h1); (try simp only [World.size_alloc, World.size_drew]); first | exact h1 | omega)); (replace HB := Lib.hid (HB.out.alloc HB.out.size (.cells #[.int .i64 0, .slice none 0 0, .slice none 0 0, .slice none 0 0, .slice none 0 0] 42))); (obtain ⟨zq0, zq1, zq2, zq3, zq4, fq⟩ := Z.out.d5))
              refine hK.out _ _ ?_ (fun hH6 => ?_)
              · exact HS.out _ HB.out
              clear hK K hH2
              (try simp only [Act.put, List.setIfInBounds_toArray, List.set_cons_zero, List.set_cons_succ])
              refine wpAnyH_ready (rs := [5]) (by kernel_rfl) (by simp) ?_
              refine AllReadyH.cons rfl (fun K hK => ?_) ?_
              · (go_simp; go_at_call 6; (with_reducible refine (CSP.out yaA1 yac1 yaA2 yac2 yaA3 yac3 yaA4 yac4 ybA5 ybc5 _ Ya1.out Ya2.out Ya3.out Ya4.out Yb5.out).mono ?_); rintro e w3q ⟨wA1, wc1, wA2, wc2, wA3, wc3, wA4, wc4, rfl, hV, hb⟩; (have hz3q := hb.size); (try simp only [World.size_alloc, World.size_drew] at hz3q); (have hy3q := HB.out.size); (try simp only [World.size_alloc, World.size_drew] at hy3q); (replace Ya1 := Lib.hid (Ya1.out.below hb)); (replace Ya2 := Lib.hid (Ya2.out.below hb)); (replace Ya3 := Lib.hid (Ya3.out.below hb)); (replace Ya4 := Lib.hid (Ya4.out.below hb)); (replace Yb5 := Lib.hid (Yb5.out.below hb)); (have HV9 := Lib.hid hV); (have hgl := Z.out.lt); (try simp only [World.size_alloc, World.size_drew] at hgl); (replace HB := Lib.hid (HB.out.trans (hb.mono HB.out.size))); (replace Z := Lib.hid (Z.out.below hb)); (obtain ⟨zq0, zq1, zq2, zq3, zq4, fq⟩ := Z.out.d5); clear hb hV; (try (go_wp2_with fail)))
                refine hK.out _ _ ?_ (fun hH7 => ?_)
                · exact HS.out _ HB.out
                clear hK K hH6
                (try simp only [Act.put, List.setIfInBounds_toArray, List.set_cons_zero, List.set_cons_succ])
                refine wpAnyH_ready (rs := [7]) (by kernel_rfl) (by simp) ?_
                refine AllReadyH.cons rfl (fun K hK => ?_) ?_
                · go_simp
                  refine hK.out _ _ ?_ (fun hH8 => ?_)
                  · exact HS.out _ (((((HB.out.setCell (p := ⟨_, 0, none⟩) hg0 _).setCell (p := ⟨_, 1, none⟩) hg0 _).setCell (p := ⟨_, 2, none⟩) hg0 _).setCell (p := ⟨_, 3, none⟩) hg0 _).setCell (p := ⟨_, 4, none⟩) hg0 _)
                  clear hK K hH7
                  (try simp only [Act.put, List.setIfInBounds_toArray, List.set_cons_zero, List.set_cons_succ])
                  refine wpAnyH_done (by kernel_rfl) ?_ _
                  go_wp2_with fail
                  go_meet
                  exact ⟨_, _, _, _, _, _, _, _, _, rfl, (((((Z.out.put 0 _).put 1 _).put 2 _).put 3 _).put 4 _), (HV9.out.touch ((((((Touch.refl (fun b => b = _) _).setCell (p := ⟨_, 0, none⟩) rfl _).setCell (p := ⟨_, 1, none⟩) rfl _).setCell (p := ⟨_, 2, none⟩) rfl _).setCell (p := ⟨_, 3, none⟩) rfl _).setCell (p := ⟨_, 4, none⟩) rfl _) (fun b hb e => by have h1 := hb.1; (try dsimp only at e); (try simp only [World.size_alloc, World.size_drew] at h1); omega)).mono (fun b hb => ⟨by have h1 := hb.1; (try simp only [World.size_alloc, World.size_drew] at h1); omega, by have h1 := hb.1; (try simp only [World.size_alloc, World.size_drew] at h1); omega⟩), (((((HB.out.setCell (p := ⟨_, 0, none⟩) hg0 _).setCell (p := ⟨_, 1, none⟩) hg0 _).setCell (p := ⟨_, 2, none⟩) hg0 _).setCell (p := ⟨_, 3, none⟩) hg0 _).setCell (p := ⟨_, 4, none⟩) hg0 _)⟩
                exact AllReadyH.nil
              exact AllReadyH.nil
            exact AllReadyH.nil
          refine AllReadyH.cons rfl (fun K hK => ?_) ?_
          · (go_simp; (have Z : Hid (Zx (w1q.heap.size) [.int .i64 0, .slice none 0 0, .slice none 0 0, .slice none 0 0, .slice none 0 0] (w1q.alloc (.cells #[.int .i64 0, .slice none 0 0, .slice none 0 0, .slice none 0 0, .slice none 0 0] 42))) := Lib.hid (by have h1 := Zx.new w1q #[.int .i64 0, .slice none 0 0, .slice none 0 0, .slice none 0 0, .slice none 0 0] 42; (try simp only [World.size_alloc, World.size_drew] at h1); exact h1)); (replace Ya1 := Lib.hid (Ya1.out.below ((Below.refl _ _).alloc (Nat.le_refl _) (.cells #[.int .i64 0, .slice none 0 0, .slice none 0 0, .slice none 0 0, .slice none 0 0] 42)))); (replace Ya2 := Lib.hid (Ya2.out.below ((Below.refl _ _).alloc (Nat.le_refl _) (.cells #[.int .i64 0, .slice none 0 0, .slice none 0 0, .slice none 0 0, .slice none 0 0] 42)))); (replace Ya3 := Lib.hid (Ya3.out.below ((Below.refl _ _).alloc (Nat.le_refl _) (.cells #[.int .i64 0, .slice none 0 0, .slice none 0 0, .slice none 0 0, .slice none 0 0] 42)))); (replace Ya4 := Lib.hid (Ya4.out.below ((Below.refl _ _).alloc (Nat.le_refl _) (.cells #[.int .i64 0, .slice none 0 0, .slice none 0 0, .slice none 0 0, .slice none 0 0] 42)))); (have HBp := HB); (have hg0 : w2.heap.size ≤ w1q.heap.size := (by have h1 := HB.out.size; (try simp only [World.size_alloc, World.size_drew] at h1); (try simp only [World.size_alloc, World.size_drew]); first | exact h1 | omega)); (replace HB := Lib.hid (HB.out.alloc HB.out.size (.cells #[.int .i64 0, .slice none 0 0, .slice none 0 0, .slice none 0 0, .slice none 0 0] 42))); (obtain ⟨zq0, zq1, zq2, zq3, zq4, fq⟩ := Z.out.d5))
            refine hK.out _ _ ?_ (fun hH9 => ?_)
            · exact HS.out _ HB.out
            clear hK K hH1
            (try simp only [Act.put, List.setIfInBounds_toArray, List.set_cons_zero, List.set_cons_succ])
            refine wpAnyH_ready (rs := [4]) (by kernel_rfl) (by simp) ?_
            refine AllReadyH.cons rfl (fun K hK => ?_) ?_
            · (go_simp; go_at_call 8; (with_reducible refine (toMessage g0 g1 g2 g3 g4 M5 D5 m5 j5 g6_0 g6_1 g7 g8_0 g8_1 g8_2 _ (Jb5.out.below HB.out) hf5 hqb5).mono ?_); rintro e w2q ⟨ybA5, ybc5, rfl, hO5, hb⟩; (have hz2q := hb.size); (try simp only [World.size_alloc, World.size_drew] at hz2q); (have hy2q := HB.out.size); (try simp only [World.size_alloc, World.size_drew] at hy2q); (replace Ya1 := Lib.hid (Ya1.out.below hb)); (replace Ya2 := Lib.hid (Ya2.out.below hb)); (replace Ya3 := Lib.hid (Ya3.out.below hb)); (replace Ya4 := Lib.hid (Ya4.out.below hb)); (have Yb5 := Lib.hid hO5.lies); (replace HB := Lib.hid (HB.out.trans (hb.mono HB.out.size))); (replace Z := Lib.hid (Z.out.below hb)); (obtain ⟨zq0, zq1, zq2, zq3, zq4, fq⟩ := Z.out.d5); clear hb hO5; (try (go_wp2_with fail)))
              refine hK.out _ _ ?_ (fun hH10 => ?_)
              · exact HS.out _ HB.out
              clear hK K hH9
              (try simp only [Act.put, List.setIfInBounds_toArray, List.set_cons_zero, List.set_cons_succ])
              refine wpAnyH_ready (rs := [5]) (by kernel_rfl) (by simp) ?_
              refine AllReadyH.cons rfl (fun K hK => ?_) ?_
              · (go_simp; go_at_call 6; (with_reducible refine (CSP.out yaA1 yac1 yaA2 yac2 yaA3 yac3 yaA4 yac4 ybA5 ybc5 _ Ya1.out Ya2.out Ya3.out Ya4.out Yb5.out).mono ?_); rintro e w3q ⟨wA1, wc1, wA2, wc2, wA3, wc3, wA4, wc4, rfl, hV, hb⟩; (have hz3q := hb.size); (try simp only [World.size_alloc, World.size_drew] at hz3q); (have hy3q := HB.out.size); (try simp only [World.size_alloc, World.size_drew] at hy3q); (replace Ya1 := Lib.hid (Ya1.out.below hb)); (replace Ya2 := Lib.hid (Ya2.out.below hb)); (replace Ya3 := Lib.hid (Ya3.out.below hb)); (replace Ya4 := Lib.hid (Ya4.out.below hb)); (replace Yb5 := Lib.hid (Yb5.out.below hb)); (have HV9 := Lib.hid hV); (have hgl := Z.out.lt); (try simp only [World.size_alloc, World.size_drew] at hgl); (replace HB := Lib.hid (HB.out.trans (hb.mono HB.out.size))); (replace Z := Lib.hid (Z.out.below hb)); (obtain ⟨zq0, zq1, zq2, zq3, zq4, fq⟩ := Z.out.d5); clear hb hV; (try (go_wp2_with fail)))
                refine hK.out _ _ ?_ (fun hH11 => ?_)
                · exact HS.out _ HB.out
                clear hK K hH10
                (try simp only [Act.put, List.setIfInBounds_toArray, List.set_cons_zero, List.set_cons_succ])
                refine wpAnyH_ready (rs := [7]) (by kernel_rfl) (by simp) ?_
                refine AllReadyH.cons rfl (fun K hK => ?_) ?_
                · go_simp
                  refine hK.out _ _ ?_ (fun hH12 => ?_)
                  · exact HS.out _ (((((HB.out.setCell (p := ⟨_, 0, none⟩) hg0 _).setCell (p := ⟨_, 1, none⟩) hg0 _).setCell (p := ⟨_, 2, none⟩) hg0 _).setCell (p := ⟨_, 3, none⟩) hg0 _).setCell (p := ⟨_, 4, none⟩) hg0 _)
                  clear hK K hH11
                  (try simp only [Act.put, List.setIfInBounds_toArray, List.set_cons_zero, List.set_cons_succ])
                  refine wpAnyH_done (by kernel_rfl) ?_ _
                  go_wp2_with fail
                  go_meet
                  exact ⟨_, _, _, _, _, _, _, _, _, rfl, (((((Z.out.put 0 _).put 1 _).put 2 _).put 3 _).put 4 _), (HV9.out.touch ((((((Touch.refl (fun b => b = _) _).setCell (p := ⟨_, 0, none⟩) rfl _).setCell (p := ⟨_, 1, none⟩) rfl _).setCell (p := ⟨_, 2, none⟩) rfl _).setCell (p := ⟨_, 3, none⟩) rfl _).setCell (p := ⟨_, 4, none⟩) rfl _) (fun b hb e => by have h1 := hb.1; (try dsimp only at e); (try simp only [World.size_alloc, World.size_drew] at h1); omega)).mono (fun b hb => ⟨by have h1 := hb.1; (try simp only [World.size_alloc, World.size_drew] at h1); omega, by have h1 := hb.1; (try simp only [World.size_alloc, World.size_drew] at h1); omega⟩), (((((HB.out.setCell (p := ⟨_, 0, none⟩) hg0 _).setCell (p := ⟨_, 1, none⟩) hg0 _).setCell (p := ⟨_, 2, none⟩) hg0 _).setCell (p := ⟨_, 3, none⟩) hg0 _).setCell (p := ⟨_, 4, none⟩) hg0 _)⟩
                exact AllReadyH.nil
              exact AllReadyH.nil
            exact AllReadyH.nil
          exact AllReadyH.nil
        refine AllReadyH.cons rfl (fun K hK => ?_) ?_
        · (go_simp; (have Z : Hid (Zx (w2.heap.size) [.int .i64 0, .slice none 0 0, .slice none 0 0, .slice none 0 0, .slice none 0 0] ((w2.alloc (.cells #[.int .i64 0, .slice none 0 0, .slice none 0 0, .slice none 0 0, .slice none 0 0] 42)).drew)) := Lib.hid (by have h1 := (Zx.new w2 #[.int .i64 0, .slice none 0 0, .slice none 0 0, .slice none 0 0, .slice none 0 0] 42).below (Below.refl _ _).drew; (try simp only [World.size_alloc, World.size_drew] at h1); exact h1)); (have HBp := HB); (have hg0 : w2.heap.size ≤ w2.heap.size := (by (try simp only [World.size_alloc, World.size_drew]); omega)); (replace HB := Lib.hid ((Below.refl w2.heap.size w2).alloc (Nat.le_refl _) (.cells #[.int .i64 0, .slice none 0 0, .slice none 0 0, .slice none 0 0, .slice none 0 0] 42)).drew); (obtain ⟨zq0, zq1, zq2, zq3, zq4, fq⟩ := Z.out.d5))
          refine hK.out _ _ ?_ (fun hH13 => ?_)
          · exact HS.out _ HB.out
          clear hK K hH0
          (try simp only [Act.put, List.setIfInBounds_toArray, List.set_cons_zero, List.set_cons_succ])
          refine wpAnyH_ready (rs := [1]) (by kernel_rfl) (by simp) ?_
          refine AllReadyH.cons rfl (fun K hK => ?_) ?_
          · (go_simp; go_at_call 7; (with_reducible refine (toVat f0 L1 A1 n1 c1 L2 A2 n2 c2 L3 A3 n3 c3 L4 A4 n4 c4 _ (Ja1.out.below HB.out) ht1 hqa1 (Ja2.out.below HB.out) ht2 hqa2 (Ja3.out.below HB.out) ht3 hqa3 (Ja4.out.below HB.out) ht4 hqa4).mono ?_); rintro e w1q ⟨yaA1, yac1, yaA2, yac2, yaA3, yac3, yaA4, yac4, a1, a2, a3, rfl, hO1, hO2, hO3, hO4, -, -, -, -, hb⟩; (have hz1q := hb.size); (try simp only [World.size_alloc, World.size_drew] at hz1q); (have hy1q := HB.out.size); (try simp only [World.size_alloc, World.size_drew] at hy1q); (have Ya1 := Lib.hid hO1.lies); (have Ya2 := Lib.hid hO2.lies); (have Ya3 := Lib.hid hO3.lies); (have Ya4 := Lib.hid hO4.lies); (replace HB := Lib.hid (HB.out.trans (hb.mono HB.out.size))); (replace Z := Lib.hid (Z.out.below hb)); (obtain ⟨zq0, zq1, zq2, zq3, zq4, fq⟩ := Z.out.d5); clear hb hO1 hO2 hO3 hO4; (try (go_wp2_with fail)))
            refine hK.out _ _ ?_ (fun hH14 => ?_)
            · exact HS.out _ HB.out
            clear hK K hH13
            (try simp only [Act.put, List.setIfInBounds_toArray, List.set_cons_zero, List.set_cons_succ])
            refine wpAnyH_ready (rs := [4]) (by kernel_rfl) (by simp) ?_
            refine AllReadyH.cons rfl (fun K hK => ?_) ?_
            · (go_simp; go_at_call 8; (with_reducible refine (toMessage g0 g1 g2 g3 g4 M5 D5 m5 j5 g6_0 g6_1 g7 g8_0 g8_1 g8_2 _ (Jb5.out.below HB.out) hf5 hqb5).mono ?_); rintro e w2q ⟨ybA5, ybc5, rfl, hO5, hb⟩; (have hz2q := hb.size); (try simp only [World.size_alloc, World.size_drew] at hz2q); (have hy2q := HB.out.size); (try simp only [World.size_alloc, World.size_drew] at hy2q); (replace Ya1 := Lib.hid (Ya1.out.below hb)); (replace Ya2 := Lib.hid (Ya2.out.below hb)); (replace Ya3 := Lib.hid (Ya3.out.below hb)); (replace Ya4 := Lib.hid (Ya4.out.below hb)); (have Yb5 := Lib.hid hO5.lies); (replace HB := Lib.hid (HB.out.trans (hb.mono HB.out.size))); (replace Z := Lib.hid (Z.out.below hb)); (obtain ⟨zq0, zq1, zq2, zq3, zq4, fq⟩ := Z.out.d5); clear hb hO5; (try (go_wp2_with fail)))
              refine hK.out _ _ ?_ (fun hH15 => ?_)
              · exact HS.out _ HB.out
              clear hK K hH14
              (try simp only [Act.put, List.setIfInBounds_toArray, List.set_cons_zero, List.set_cons_succ])
              refine wpAnyH_ready (rs := [5]) (by kernel_rfl) (by simp) ?_
              refine AllReadyH.cons rfl (fun K hK => ?_) ?_
              · (go_simp; go_at_call 6; (with_reducible refine (CSP.out yaA1 yac1 yaA2 yac2 yaA3 yac3 yaA4 yac4 ybA5 ybc5 _ Ya1.out Ya2.out Ya3.out Ya4.out Yb5.out).mono ?_); rintro e w3q ⟨wA1, wc1, wA2, wc2, wA3, wc3, wA4, wc4, rfl, hV, hb⟩; (have hz3q := hb.size); (try simp only [World.size_alloc, World.size_drew] at hz3q); (have hy3q := HB.out.size); (try simp only [World.size_alloc, World.size_drew] at hy3q); (replace Ya1 := Lib.hid (Ya1.out.below hb)); (replace Ya2 := Lib.hid (Ya2.out.below hb)); (replace Ya3 := Lib.hid (Ya3.out.below hb)); (replace Ya4 := Lib.hid (Ya4.out.below hb)); (replace Yb5 := Lib.hid (Yb5.out.below hb)); (have HV9 := Lib.hid hV); (have hgl := Z.out.lt); (try simp only [World.size_alloc, World.size_drew] at hgl); (replace HB := Lib.hid (HB.out.trans (hb.mono HB.out.size))); (replace Z := Lib.hid (Z.out.below hb)); (obtain ⟨zq0, zq1, zq2, zq3, zq4, fq⟩ := Z.out.d5); clear hb hV; (try (go_wp2_with fail)))
                refine hK.out _ _ ?_ (fun hH16 => ?_)
                · exact HS.out _ HB.out
                clear hK K hH15
                (try simp only [Act.put, List.setIfInBounds_toArray, List.set_cons_zero, List.set_cons_succ])
                refine wpAnyH_ready (rs := [7]) (by kernel_rfl) (by simp) ?_
                refine AllReadyH.cons rfl (fun K hK => ?_) ?_
                · go_simp
                  refine hK.out _ _ ?_ (fun hH17 => ?_)
                  · exact HS.out _ (((((HB.out.setCell (p := ⟨_, 0, none⟩) hg0 _).setCell (p := ⟨_, 1, none⟩) hg0 _).setCell (p := ⟨_, 2, none⟩) hg0 _).setCell (p := ⟨_, 3, none⟩) hg0 _).setCell (p := ⟨_, 4, none⟩) hg0 _)
                  clear hK K hH16
                  (try simp only [Act.put, List.setIfInBounds_toArray, List.set_cons_zero, List.set_cons_succ])
                  refine wpAnyH_done (by kernel_rfl) ?_ _
                  go_wp2_with fail
                  go_meet
                  exact ⟨_, _, _, _, _, _, _, _, _, rfl, (((((Z.out.put 0 _).put 1 _).put 2 _).put 3 _).put 4 _), (HV9.out.touch ((((((Touch.refl (fun b => b = _) _).setCell (p := ⟨_, 0, none⟩) rfl _).setCell (p := ⟨_, 1, none⟩) rfl _).setCell (p := ⟨_, 2, none⟩) rfl _).setCell (p := ⟨_, 3, none⟩) rfl _).setCell (p := ⟨_, 4, none⟩) rfl _) (fun b hb e => by have h1 := hb.1; (try dsimp only at e); (try simp only [World.size_alloc, World.size_drew] at h1); omega)).mono (fun b hb => ⟨by have h1 := hb.1; (try simp only [World.size_alloc, World.size_drew] at h1); omega, by have h1 := hb.1; (try simp only [World.size_alloc, World.size_drew] at h1); omega⟩), (((((HB.out.setCell (p := ⟨_, 0, none⟩) hg0 _).setCell (p := ⟨_, 1, none⟩) hg0 _).setCell (p := ⟨_, 2, none⟩) hg0 _).setCell (p := ⟨_, 3, none⟩) hg0 _).setCell (p := ⟨_, 4, none⟩) hg0 _)⟩
                exact AllReadyH.nil
              exact AllReadyH.nil
            exact AllReadyH.nil
          exact AllReadyH.nil
        exact AllReadyH.nil
      case rest =>
        rename World => w3
        obtain ⟨gw, wA1, wc1, wA2, wc2, wA3, wc3, wA4, wc4, rfl, hZ, hV, hb⟩ := hcut
        clear HS
        replace Ba : Hid (Box (W.heap.size) [.int .i64 f0, .slice A1 n1 c1, .slice A2 n2 c2, .slice A3 n3 c3, .slice A4 n4 c4] w3) := Lib.hid (Ba.out.below hb)
        replace Bb : Hid (Box (W.heap.size + 1) [.int .i64 g0, .int .i64 g1, .int .i64 g2, .int .i64 g3, .string g4, .slice D5 m5 j5, .int .i64 g6_0, .int .i64 g6_1, .int .i64 g7, .int .i64 g8_0, .int .i64 g8_1, .int .i64 g8_2] w3) := Lib.hid (Bb.out.below hb)
        replace HT : Hid (Below W.heap.size W w3) := Lib.hid (HT.out.trans (hb.mono HT.out.size))
        have hsw3 : w2.heap.size ≤ w3.heap.size := (by have h1 := hb.size; (try simp only [World.size_alloc, World.size_drew] at h1); exact h1)
        have hzw : gw < w3.heap.size := hZ.lt
        have Bw : Hid (Box (gw) [.int .i64 f0, .slice wA1 n1 wc1, .slice wA2 n2 wc2, .slice wA3 n3 wc3, .slice wA4 m4 wc4] w3) := Lib.hid hZ.1
        have Hw : Hid (Owns w3 (.r [.i f0, .l L1, .l L2, .l L3, .l N4]) [.int .i64 f0, .slice wA1 n1 wc1, .slice wA2 n2 wc2, .slice wA3 n3 wc3, .slice wA4 m4 wc4] (fun b => (w2.heap.size ≤ b ∧ b ≠ gw) ∧ b < w3.heap.size)) := Lib.hid hV.cut.owns
        clear hZ hV hb
        obtain ⟨za0, za1, za2, za3, za4⟩ := Ba.out.c5
        go_wp2_with fail
        refine (toVat f0 L1 A1 n1 c1 L2 A2 n2 c2 L3 A3 n3 c3 L4 A4 n4 c4 _ (Za1.out.below HT.out) ht1 hqa1 (Za2.out.below HT.out) ht2 hqa2 (Za3.out.below HT.out) ht3 hqa3 (Za4.out.below HT.out) ht4 hqa4).mono ?_
        rintro e w4 ⟨xA1, xc1, xA2, xc2, xA3, xc3, xA4, xc4, a1, a2, a3, rfl, hO1, hO2, hO3, hO4, ha0, ha1, ha2, ha3, hb⟩
        clear za0 za1 za2 za3 za4
        replace Hw : Hid (Owns w4 (.r [.i f0, .l L1, .l L2, .l L3, .l N4]) [.int .i64 f0, .slice wA1 n1 wc1, .slice wA2 n2 wc2, .slice wA3 n3 wc3, .slice wA4 m4 wc4] (fun b => (w2.heap.size ≤ b ∧ b ≠ gw) ∧ b < w3.heap.size)) := Lib.hid (Hw.out.below hb)
        replace Ba : Hid (Box (W.heap.size) [.int .i64 f0, .slice A1 n1 c1, .slice A2 n2 c2, .slice A3 n3 c3, .slice A4 n4 c4] w4) := Lib.hid (Ba.out.below hb)
        replace Bb : Hid (Box (W.heap.size + 1) [.int .i64 g0, .int .i64 g1, .int .i64 g2, .int .i64 g3, .string g4, .slice D5 m5 j5, .int .i64 g6_0, .int .i64 g6_1, .int .i64 g7, .int .i64 g8_0, .int .i64 g8_1, .int .i64 g8_2] w4) := Lib.hid (Bb.out.below hb)
        replace Bw : Hid (Box (gw) [.int .i64 f0, .slice wA1 n1 wc1, .slice wA2 n2 wc2, .slice wA3 n3 wc3, .slice wA4 m4 wc4] w4) := Lib.hid (Bw.out.below hb)
        replace HT : Hid (Below W.heap.size W w4) := Lib.hid (HT.out.trans (hb.mono HT.out.size))
        have hsw4 : w3.heap.size ≤ w4.heap.size := (by have h1 := hb.size; (try simp only [World.size_alloc, World.size_drew] at h1); exact h1)
        have Hx : Hid (Owns w4 (.r [.i f0, .l L1, .l L2, .l L3, .l L4]) [.int .i64 f0, .slice xA1 n1 xc1, .slice xA2 n2 xc2, .slice xA3 n3 xc3, .slice xA4 n4 xc4] (rng (w3.heap.size) (w4.heap.size))) := Lib.hid (by refine Owns.mono (fun b hb => ?_) (ownVat hO1 hO2 hO3 hO4 ha0 ha1 ha2 ha3); have h1 := hb.1; have h2 := hb.2; (try simp only [World.size_alloc, World.size_drew] at h1 h2); exact ⟨by omega, by omega⟩)
        clear hO1 hO2 hO3 hO4 ha0 ha1 ha2 ha3 hb
        have hb : Below w4.heap.size w4 (w4.alloc (.cells #[.int .i64 f0, .slice xA1 n1 xc1, .slice xA2 n2 xc2, .slice xA3 n3 xc3, .slice xA4 n4 xc4] 42)) := (Below.refl _ _).alloc (Nat.le_refl _) _
        replace Hw : Hid (Owns (w4.alloc (.cells #[.int .i64 f0, .slice xA1 n1 xc1, .slice xA2 n2 xc2, .slice xA3 n3 xc3, .slice xA4 n4 xc4] 42)) (.r [.i f0, .l L1, .l L2, .l L3, .l N4]) [.int .i64 f0, .slice wA1 n1 wc1, .slice wA2 n2 wc2, .slice wA3 n3 wc3, .slice wA4 m4 wc4] (fun b => (w2.heap.size ≤ b ∧ b ≠ gw) ∧ b < w3.heap.size)) := Lib.hid (Hw.out.below hb)
        replace Hx : Hid (Owns (w4.alloc (.cells #[.int .i64 f0, .slice xA1 n1 xc1, .slice xA2 n2 xc2, .slice xA3 n3 xc3, .slice xA4 n4 xc4] 42)) (.r [.i f0, .l L1, .l L2, .l L3, .l L4]) [.int .i64 f0, .slice xA1 n1 xc1, .slice xA2 n2 xc2, .slice xA3 n3 xc3, .slice xA4 n4 xc4] (rng (w3.heap.size) (w4.heap.size))) := Lib.hid (Hx.out.below hb)
        replace Ba : Hid (Box (W.heap.size) [.int .i64 f0, .slice A1 n1 c1, .slice A2 n2 c2, .slice A3 n3 c3, .slice A4 n4 c4] (w4.alloc (.cells #[.int .i64 f0, .slice xA1 n1 xc1, .slice xA2 n2 xc2, .slice xA3 n3 xc3, .slice xA4 n4 xc4] 42))) := Lib.hid (Ba.out.below hb)
        replace Bb : Hid (Box (W.heap.size + 1) [.int .i64 g0, .int .i64 g1, .int .i64 g2, .int .i64 g3, .string g4, .slice D5 m5 j5, .int .i64 g6_0, .int .i64 g6_1, .int .i64 g7, .int .i64 g8_0, .int .i64 g8_1, .int .i64 g8_2] (w4.alloc (.cells #[.int .i64 f0, .slice xA1 n1 xc1, .slice xA2 n2 xc2, .slice xA3 n3 xc3, .slice xA4 n4 xc4] 42))) := Lib.hid (Bb.out.below hb)
        replace Bw : Hid (Box (gw) [.int .i64 f0, .slice wA1 n1 wc1, .slice wA2 n2 wc2, .slice wA3 n3 wc3, .slice wA4 m4 wc4] (w4.alloc (.cells #[.int .i64 f0, .slice xA1 n1 xc1, .slice xA2 n2 xc2, .slice xA3 n3 xc3, .slice xA4 n4 xc4] 42))) := Lib.hid (Bw.out.below hb)
        replace HT : Hid (Below W.heap.size W (w4.alloc (.cells #[.int .i64 f0, .slice xA1 n1 xc1, .slice xA2 n2 xc2, .slice xA3 n3 xc3, .slice xA4 n4 xc4] 42))) := Lib.hid (HT.out.trans (hb.mono HT.out.size))
        clear hb
        have Bx : Hid (Box (w4.heap.size) [.int .i64 f0, .slice xA1 n1 xc1, .slice xA2 n2 xc2, .slice xA3 n3 xc3, .slice xA4 n4 xc4] (w4.alloc (.cells #[.int .i64 f0, .slice xA1 n1 xc1, .slice xA2 n2 xc2, .slice xA3 n3 xc3, .slice xA4 n4 xc4] 42))) := Lib.hid (by have h1 := Box.new w4 #[.int .i64 f0, .slice xA1 n1 xc1, .slice xA2 n2 xc2, .slice xA3 n3 xc3, .slice xA4 n4 xc4] 42; (try simp only [World.size_alloc] at h1); exact h1)
        obtain ⟨zb0, zb1, zb2, zb3, zb4, zb5, zb6, zb7, zb8, zb9, zb10, zb11⟩ := Bb.out.c12
        go_wp2_with fail
        refine (toMessage g0 g1 g2 g3 g4 M5 D5 m5 j5 g6_0 g6_1 g7 g8_0 g8_1 g8_2 _ (Zb5.out.below HT.out) hf5 hqb5).mono ?_
        rintro e w5 ⟨zA5, zc5, rfl, hO5, hb⟩
        clear zb0 zb1 zb2 zb3 zb4 zb5 zb6 zb7 zb8 zb9 zb10 zb11
        replace Hw : Hid (Owns w5 (.r [.i f0, .l L1, .l L2, .l L3, .l N4]) [.int .i64 f0, .slice wA1 n1 wc1, .slice wA2 n2 wc2, .slice wA3 n3 wc3, .slice wA4 m4 wc4] (fun b => (w2.heap.size ≤ b ∧ b ≠ gw) ∧ b < w3.heap.size)) := Lib.hid (Hw.out.below hb)
        replace Hx : Hid (Owns w5 (.r [.i f0, .l L1, .l L2, .l L3, .l L4]) [.int .i64 f0, .slice xA1 n1 xc1, .slice xA2 n2 xc2, .slice xA3 n3 xc3, .slice xA4 n4 xc4] (rng (w3.heap.size) (w4.heap.size))) := Lib.hid (Hx.out.below hb)
        replace Ba : Hid (Box (W.heap.size) [.int .i64 f0, .slice A1 n1 c1, .slice A2 n2 c2, .slice A3 n3 c3, .slice A4 n4 c4] w5) := Lib.hid (Ba.out.below hb)
        replace Bb : Hid (Box (W.heap.size + 1) [.int .i64 g0, .int .i64 g1, .int .i64 g2, .int .i64 g3, .string g4, .slice D5 m5 j5, .int .i64 g6_0, .int .i64 g6_1, .int .i64 g7, .int .i64 g8_0, .int .i64 g8_1, .int .i64 g8_2] w5) := Lib.hid (Bb.out.below hb)
        replace Bw : Hid (Box (gw) [.int .i64 f0, .slice wA1 n1 wc1, .slice wA2 n2 wc2, .slice wA3 n3 wc3, .slice wA4 m4 wc4] w5) := Lib.hid (Bw.out.below hb)
        replace Bx : Hid (Box (w4.heap.size) [.int .i64 f0, .slice xA1 n1 xc1, .slice xA2 n2 xc2, .slice xA3 n3 xc3, .slice xA4 n4 xc4] w5) := Lib.hid (Bx.out.below hb)
        replace HT : Hid (Below W.heap.size W w5) := Lib.hid (HT.out.trans (hb.mono HT.out.size))
        have hsw5 : w4.heap.size + 1 ≤ w5.heap.size := (by have h1 := hb.size; (try simp only [World.size_alloc, World.size_drew] at h1); exact h1)
        have Hz : Hid (Owns w5 (.r [.i g0, .i g1, .i g2, .i g3, .s g4, .l M5, .r [.i g6_0, .i g6_1], .i g7, .r [.i g8_0, .i g8_1, .i g8_2]]) [.int .i64 g0, .int .i64 g1, .int .i64 g2, .int .i64 g3, .string g4, .slice zA5 m5 zc5, .int .i64 g6_0, .int .i64 g6_1, .int .i64 g7, .int .i64 g8_0, .int .i64 g8_1, .int .i64 g8_2] (rng (w4.heap.size + 1) (w5.heap.size))) := Lib.hid (by refine Owns.mono (fun b hb => ?_) (ownMessage hO5 hb.size); have h1 := hb.1; have h2 := hb.2; (try simp only [World.size_alloc, World.size_drew] at h1 h2); exact ⟨by omega, by omega⟩)
        clear hO5 hb
        have hb : Below w5.heap.size w5 (w5.alloc (.cells #[.int .i64 g0, .int .i64 g1, .int .i64 g2, .int .i64 g3, .string g4, .slice zA5 m5 zc5, .int .i64 g6_0, .int .i64 g6_1, .int .i64 g7, .int .i64 g8_0, .int .i64 g8_1, .int .i64 g8_2] 49)) := (Below.refl _ _).alloc (Nat.le_refl _) _
        replace Hw : Hid (Owns (w5.alloc (.cells #[.int .i64 g0, .int .i64 g1, .int .i64 g2, .int .i64 g3, .string g4, .slice zA5 m5 zc5, .int .i64 g6_0, .int .i64 g6_1, .int .i64 g7, .int .i64 g8_0, .int .i64 g8_1, .int .i64 g8_2] 49)) (.r [.i f0, .l L1, .l L2, .l L3, .l N4]) [.int .i64 f0, .slice wA1 n1 wc1, .slice wA2 n2 wc2, .slice wA3 n3 wc3, .slice wA4 m4 wc4] (fun b => (w2.heap.size ≤ b ∧ b ≠ gw) ∧ b < w3.heap.size)) := Lib.hid (Hw.out.below hb)
        replace Hx : Hid (Owns (w5.alloc (.cells #[.int .i64 g0, .int .i64 g1, .int .i64 g2, .int .i64 g3, .string g4, .slice zA5 m5 zc5, .int .i64 g6_0, .int .i64 g6_1, .int .i64 g7, .int .i64 g8_0, .int .i64 g8_1, .int .i64 g8_2] 49)) (.r [.i f0, .l L1, .l L2, .l L3, .l L4]) [.int .i64 f0, .slice xA1 n1 xc1, .slice xA2 n2 xc2, .slice xA3 n3 xc3, .slice xA4 n4 xc4] (rng (w3.heap.size) (w4.heap.size))) := Lib.hid (Hx.out.below hb)
        replace Hz : Hid (Owns (w5.alloc (.cells #[.int .i64 g0, .int .i64 g1, .int .i64 g2, .int .i64 g3, .string g4, .slice zA5 m5 zc5, .int .i64 g6_0, .int .i64 g6_1, .int .i64 g7, .int .i64 g8_0, .int .i64 g8_1, .int .i64 g8_2] 49)) (.r [.i g0, .i g1, .i g2, .i g3, .s g4, .l M5, .r [.i g6_0, .i g6_1], .i g7, .r [.i g8_0, .i g8_1, .i g8_2]]) [.int .i64 g0, .int .i64 g1, .int .i64 g2, .int .i64 g3, .string g4, .slice zA5 m5 zc5, .int .i64 g6_0, .int .i64 g6_1, .int .i64 g7, .int .i64 g8_0, .int .i64 g8_1, .int .i64 g8_2] (rng (w4.heap.size + 1) (w5.heap.size))) := Lib.hid (Hz.out.below hb)
        replace Ba : Hid (Box (W.heap.size) [.int .i64 f0, .slice A1 n1 c1, .slice A2 n2 c2, .slice A3 n3 c3, .slice A4 n4 c4] (w5.alloc (.cells #[.int .i64 g0, .int .i64 g1, .int .i64 g2, .int .i64 g3, .string g4, .slice zA5 m5 zc5, .int .i64 g6_0, .int .i64 g6_1, .int .i64 g7, .int .i64 g8_0, .int .i64 g8_1, .int .i64 g8_2] 49))) := Lib.hid (Ba.out.below hb)
        replace Bb : Hid (Box (W.heap.size + 1) [.int .i64 g0, .int .i64 g1, .int .i64 g2, .int .i64 g3, .string g4, .slice D5 m5 j5, .int .i64 g6_0, .int .i64 g6_1, .int .i64 g7, .int .i64 g8_0, .int .i64 g8_1, .int .i64 g8_2] (w5.alloc (.cells #[.int .i64 g0, .int .i64 g1, .int .i64 g2, .int .i64 g3, .string g4, .slice zA5 m5 zc5, .int .i64 g6_0, .int .i64 g6_1, .int .i64 g7, .int .i64 g8_0, .int .i64 g8_1, .int .i64 g8_2] 49))) := Lib.hid (Bb.out.below hb)
        replace Bw : Hid (Box (gw) [.int .i64 f0, .slice wA1 n1 wc1, .slice wA2 n2 wc2, .slice wA3 n3 wc3, .slice wA4 m4 wc4] (w5.alloc (.cells #[.int .i64 g0, .int .i64 g1, .int .i64 g2, .int .i64 g3, .string g4, .slice zA5 m5 zc5, .int .i64 g6_0, .int .i64 g6_1, .int .i64 g7, .int .i64 g8_0, .int .i64 g8_1, .int .i64 g8_2] 49))) := Lib.hid (Bw.out.below hb)
        replace Bx : Hid (Box (w4.heap.size) [.int .i64 f0, .slice xA1 n1 xc1, .slice xA2 n2 xc2, .slice xA3 n3 xc3, .slice xA4 n4 xc4] (w5.alloc (.cells #[.int .i64 g0, .int .i64 g1, .int .i64 g2, .int .i64 g3, .string g4, .slice zA5 m5 zc5, .int .i64 g6_0, .int .i64 g6_1, .int .i64 g7, .int .i64 g8_0, .int .i64 g8_1, .int .i64 g8_2] 49))) := Lib.hid (Bx.out.below hb)
        replace HT : Hid (Below W.heap.size W (w5.alloc (.cells #[.int .i64 g0, .int .i64 g1, .int .i64 g2, .int .i64 g3, .string g4, .slice zA5 m5 zc5, .int .i64 g6_0, .int .i64 g6_1, .int .i64 g7, .int .i64 g8_0, .int .i64 g8_1, .int .i64 g8_2] 49))) := Lib.hid (HT.out.trans (hb.mono HT.out.size))
        clear hb
        have Bz : Hid (Box (w5.heap.size) [.int .i64 g0, .int .i64 g1, .int .i64 g2, .int .i64 g3, .string g4, .slice zA5 m5 zc5, .int .i64 g6_0, .int .i64 g6_1, .int .i64 g7, .int .i64 g8_0, .int .i64 g8_1, .int .i64 g8_2] (w5.alloc (.cells #[.int .i64 g0, .int .i64 g1, .int .i64 g2, .int .i64 g3, .string g4, .slice zA5 m5 zc5, .int .i64 g6_0, .int .i64 g6_1, .int .i64 g7, .int .i64 g8_0, .int .i64 g8_1, .int .i64 g8_2] 49))) := Lib.hid (by have h1 := Box.new w5 #[.int .i64 g0, .int .i64 g1, .int .i64 g2, .int .i64 g3, .string g4, .slice zA5 m5 zc5, .int .i64 g6_0, .int .i64 g6_1, .int .i64 g7, .int .i64 g8_0, .int .i64 g8_1, .int .i64 g8_2] 49; (try simp only [World.size_alloc] at h1); exact h1)
        obtain ⟨zx0, zx1, zx2, zx3, zx4⟩ := Bx.out.c5
        obtain ⟨zz0, zz1, zz2, zz3, zz4, zz5, zz6, zz7, zz8, zz9, zz10, zz11⟩ := Bz.out.c12
        go_wp2_with fail
        refine (CIM.out xA1 xc1 xA2 xc2 xA3 xc3 xA4 xc4 zA5 zc5 _ (liesVat1 Hx.out) (liesVat2 Hx.out) (liesVat3 Hx.out) (liesVat4 Hx.out) (liesMessage5 Hz.out)).mono ?_
        rintro e w6 ⟨gA1, gc1, gA2, gc2, gA3, gc3, gA4, gc4, rfl, hV, hb⟩
        clear zx0 zx1 zx2 zx3 zx4
        clear zz0 zz1 zz2 zz3 zz4 zz5 zz6 zz7 zz8 zz9 zz10 zz11
        replace Hw : Hid (Owns w6 (.r [.i f0, .l L1, .l L2, .l L3, .l N4]) [.int .i64 f0, .slice wA1 n1 wc1, .slice wA2 n2 wc2, .slice wA3 n3 wc3, .slice wA4 m4 wc4] (fun b => (w2.heap.size ≤ b ∧ b ≠ gw) ∧ b < w3.heap.size)) := Lib.hid (Hw.out.below hb)
        replace Hx : Hid (Owns w6 (.r [.i f0, .l L1, .l L2, .l L3, .l L4]) [.int .i64 f0, .slice xA1 n1 xc1, .slice xA2 n2 xc2, .slice xA3 n3 xc3, .slice xA4 n4 xc4] (rng (w3.heap.size) (w4.heap.size))) := Lib.hid (Hx.out.below hb)
        replace Hz : Hid (Owns w6 (.r [.i g0, .i g1, .i g2, .i g3, .s g4, .l M5, .r [.i g6_0, .i g6_1], .i g7, .r [.i g8_0, .i g8_1, .i g8_2]]) [.int .i64 g0, .int .i64 g1, .int .i64 g2, .int .i64 g3, .string g4, .slice zA5 m5 zc5, .int .i64 g6_0, .int .i64 g6_1, .int .i64 g7, .int .i64 g8_0, .int .i64 g8_1, .int .i64 g8_2] (rng (w4.heap.size + 1) (w5.heap.size))) := Lib.hid (Hz.out.below hb)
        replace Ba : Hid (Box (W.heap.size) [.int .i64 f0, .slice A1 n1 c1, .slice A2 n2 c2, .slice A3 n3 c3, .slice A4 n4 c4] w6) := Lib.hid (Ba.out.below hb)
        replace Bb : Hid (Box (W.heap.size + 1) [.int .i64 g0, .int .i64 g1, .int .i64 g2, .int .i64 g3, .string g4, .slice D5 m5 j5, .int .i64 g6_0, .int .i64 g6_1, .int .i64 g7, .int .i64 g8_0, .int .i64 g8_1, .int .i64 g8_2] w6) := Lib.hid (Bb.out.below hb)
        replace Bw : Hid (Box (gw) [.int .i64 f0, .slice wA1 n1 wc1, .slice wA2 n2 wc2, .slice wA3 n3 wc3, .slice wA4 m4 wc4] w6) := Lib.hid (Bw.out.below hb)
        replace Bx : Hid (Box (w4.heap.size) [.int .i64 f0, .slice xA1 n1 xc1, .slice xA2 n2 xc2, .slice xA3 n3 xc3, .slice xA4 n4 xc4] w6) := Lib.hid (Bx.out.below hb)
        replace Bz : Hid (Box (w5.heap.size) [.int .i64 g0, .int .i64 g1, .int .i64 g2, .int .i64 g3, .string g4, .slice zA5 m5 zc5, .int .i64 g6_0, .int .i64 g6_1, .int .i64 g7, .int .i64 g8_0, .int .i64 g8_1, .int .i64 g8_2] w6) := Lib.hid (Bz.out.below hb)
        replace HT : Hid (Below W.heap.size W w6) := Lib.hid (HT.out.trans (hb.mono HT.out.size))
        have hsw6 : w5.heap.size + 1 ≤ w6.heap.size := (by have h1 := hb.size; (try simp only [World.size_alloc, World.size_drew] at h1); exact h1)
        have Hg : Hid (Owns w6 (.r [.i f0, .l L1, .l L2, .l L3, .l N4]) [.int .i64 f0, .slice gA1 n1 gc1, .slice gA2 n2 gc2, .slice gA3 n3 gc3, .slice gA4 m4 gc4] (rng (w5.heap.size + 1) (w6.heap.size))) := Lib.hid (by refine Owns.mono (fun b hb => ?_) (hV.owns); have h1 := hb.1; have h2 := hb.2; (try simp only [World.size_alloc, World.size_drew] at h1 h2); exact ⟨by omega, by omega⟩)
        clear hV hb
        have hb : Below w6.heap.size w6 (w6.alloc (.cells #[.int .i64 f0, .slice gA1 n1 gc1, .slice gA2 n2 gc2, .slice gA3 n3 gc3, .slice gA4 m4 gc4] 42)) := (Below.refl _ _).alloc (Nat.le_refl _) _
        replace Hw : Hid (Owns (w6.alloc (.cells #[.int .i64 f0, .slice gA1 n1 gc1, .slice gA2 n2 gc2, .slice gA3 n3 gc3, .slice gA4 m4 gc4] 42)) (.r [.i f0, .l L1, .l L2, .l L3, .l N4]) [.int .i64 f0, .slice wA1 n1 wc1, .slice wA2 n2 wc2, .slice wA3 n3 wc3, .slice wA4 m4 wc4] (fun b => (w2.heap.size ≤ b ∧ b ≠ gw) ∧ b < w3.heap.size)) := Lib.hid (Hw.out.below hb)
        replace Hx : Hid (Owns (w6.alloc (.cells #[.int .i64 f0, .slice gA1 n1 gc1, .slice gA2 n2 gc2, .slice gA3 n3 gc3, .slice gA4 m4 gc4] 42)) (.r [.i f0, .l L1, .l L2, .l L3, .l L4]) [.int .i64 f0, .slice xA1 n1 xc1, .slice xA2 n2 xc2, .slice xA3 n3 xc3, .slice xA4 n4 xc4] (rng (w3.heap.size) (w4.heap.size))) := Lib.hid (Hx.out.below hb)
        replace Hz : Hid (Owns (w6.alloc (.cells #[.int .i64 f0, .slice gA1 n1 gc1, .slice gA2 n2 gc2, .slice gA3 n3 gc3, .slice gA4 m4 gc4] 42)) (.r [.i g0, .i g1, .i g2, .i g3, .s g4, .l M5, .r [.i g6_0, .i g6_1], .i g7, .r [.i g8_0, .i g8_1, .i g8_2]]) [.int .i64 g0, .int .i64 g1, .int .i64 g2, .int .i64 g3, .string g4, .slice zA5 m5 zc5, .int .i64 g6_0, .int .i64 g6_1, .int .i64 g7, .int .i64 g8_0, .int .i64 g8_1, .int .i64 g8_2] (rng (w4.heap.size + 1) (w5.heap.size))) := Lib.hid (Hz.out.below hb)
        replace Hg : Hid (Owns (w6.alloc (.cells #[.int .i64 f0, .slice gA1 n1 gc1, .slice gA2 n2 gc2, .slice gA3 n3 gc3, .slice gA4 m4 gc4] 42)) (.r [.i f0, .l L1, .l L2, .l L3, .l N4]) [.int .i64 f0, .slice gA1 n1 gc1, .slice gA2 n2 gc2, .slice gA3 n3 gc3, .slice gA4 m4 gc4] (rng (w5.heap.size + 1) (w6.heap.size))) := Lib.hid (Hg.out.below hb)
        replace Ba : Hid (Box (W.heap.size) [.int .i64 f0, .slice A1 n1 c1, .slice A2 n2 c2, .slice A3 n3 c3, .slice A4 n4 c4] (w6.alloc (.cells #[.int .i64 f0, .slice gA1 n1 gc1, .slice gA2 n2 gc2, .slice gA3 n3 gc3, .slice gA4 m4 gc4] 42))) := Lib.hid (Ba.out.below hb)
        replace Bb : Hid (Box (W.heap.size + 1) [.int .i64 g0, .int .i64 g1, .int .i64 g2, .int .i64 g3, .string g4, .slice D5 m5 j5, .int .i64 g6_0, .int .i64 g6_1, .int .i64 g7, .int .i64 g8_0, .int .i64 g8_1, .int .i64 g8_2] (w6.alloc (.cells #[.int .i64 f0, .slice gA1 n1 gc1, .slice gA2 n2 gc2, .slice gA3 n3 gc3, .slice gA4 m4 gc4] 42))) := Lib.hid (Bb.out.below hb)
        replace Bw : Hid (Box (gw) [.int .i64 f0, .slice wA1 n1 wc1, .slice wA2 n2 wc2, .slice wA3 n3 wc3, .slice wA4 m4 wc4] (w6.alloc (.cells #[.int .i64 f0, .slice gA1 n1 gc1, .slice gA2 n2 gc2, .slice gA3 n3 gc3, .slice gA4 m4 gc4] 42))) := Lib.hid (Bw.out.below hb)
        replace Bx : Hid (Box (w4.heap.size) [.int .i64 f0, .slice xA1 n1 xc1, .slice xA2 n2 xc2, .slice xA3 n3 xc3, .slice xA4 n4 xc4] (w6.alloc (.cells #[.int .i64 f0, .slice gA1 n1 gc1, .slice gA2 n2 gc2, .slice gA3 n3 gc3, .slice gA4 m4 gc4] 42))) := Lib.hid (Bx.out.below hb)
        replace Bz : Hid (Box (w5.heap.size) [.int .i64 g0, .int .i64 g1, .int .i64 g2, .int .i64 g3, .string g4, .slice zA5 m5 zc5, .int .i64 g6_0, .int .i64 g6_1, .int .i64 g7, .int .i64 g8_0, .int .i64 g8_1, .int .i64 g8_2] (w6.alloc (.cells #[.int .i64 f0, .slice gA1 n1 gc1, .slice gA2 n2 gc2, .slice gA3 n3 gc3, .slice gA4 m4 gc4] 42))) := Lib.hid (Bz.out.below hb)
        replace HT : Hid (Below W.heap.size W (w6.alloc (.cells #[.int .i64 f0, .slice gA1 n1 gc1, .slice gA2 n2 gc2, .slice gA3 n3 gc3, .slice gA4 m4 gc4] 42))) := Lib.hid (HT.out.trans (hb.mono HT.out.size))
        clear hb
        have Bg : Hid (Box (w6.heap.size) [.int .i64 f0, .slice gA1 n1 gc1, .slice gA2 n2 gc2, .slice gA3 n3 gc3, .slice gA4 m4 gc4] (w6.alloc (.cells #[.int .i64 f0, .slice gA1 n1 gc1, .slice gA2 n2 gc2, .slice gA3 n3 gc3, .slice gA4 m4 gc4] 42))) := Lib.hid (by have h1 := Box.new w6 #[.int .i64 f0, .slice gA1 n1 gc1, .slice gA2 n2 gc2, .slice gA3 n3 gc3, .slice gA4 m4 gc4] 42; (try simp only [World.size_alloc] at h1); exact h1)
        obtain ⟨zg0, zg1, zg2, zg3, zg4⟩ := Bg.out.c5
        obtain ⟨zw0, zw1, zw2, zw3, zw4⟩ := Bw.out.c5
        go_wp2_with fail
        refine (eqVat f0 L1 gA1 n1 gc1 L2 gA2 n2 gc2 L3 gA3 n3 gc3 N4 gA4 m4 gc4 wA1 wc1 wA2 wc2 wA3 wc3 wA4 wc4 _ (liesVat1 Hg.out) (liesVat1 Hw.out) ht1 hm1 (liesVat2 Hg.out) (liesVat2 Hw.out) ht2 hm2 (liesVat3 Hg.out) (liesVat3 Hw.out) ht3 hm3 (liesVat4 Hg.out) (liesVat4 Hw.out) htN4 hmN4).mono ?_
        rintro e w7 ⟨rfl, hb⟩
        clear zg0 zg1 zg2 zg3 zg4
        clear zw0 zw1 zw2 zw3 zw4
        replace Hw : Hid (Owns w7 (.r [.i f0, .l L1, .l L2, .l L3, .l N4]) [.int .i64 f0, .slice wA1 n1 wc1, .slice wA2 n2 wc2, .slice wA3 n3 wc3, .slice wA4 m4 wc4] (fun b => (w2.heap.size ≤ b ∧ b ≠ gw) ∧ b < w3.heap.size)) := Lib.hid (Hw.out.below hb)
        replace Hx : Hid (Owns w7 (.r [.i f0, .l L1, .l L2, .l L3, .l L4]) [.int .i64 f0, .slice xA1 n1 xc1, .slice xA2 n2 xc2, .slice xA3 n3 xc3, .slice xA4 n4 xc4] (rng (w3.heap.size) (w4.heap.size))) := Lib.hid (Hx.out.below hb)
        replace Hz : Hid (Owns w7 (.r [.i g0, .i g1, .i g2, .i g3, .s g4, .l M5, .r [.i g6_0, .i g6_1], .i g7, .r [.i g8_0, .i g8_1, .i g8_2]]) [.int .i64 g0, .int .i64 g1, .int .i64 g2, .int .i64 g3, .string g4, .slice zA5 m5 zc5, .int .i64 g6_0, .int .i64 g6_1, .int .i64 g7, .int .i64 g8_0, .int .i64 g8_1, .int .i64 g8_2] (rng (w4.heap.size + 1) (w5.heap.size))) := Lib.hid (Hz.out.below hb)
        replace Hg : Hid (Owns w7 (.r [.i f0, .l L1, .l L2, .l L3, .l N4]) [.int .i64 f0, .slice gA1 n1 gc1, .slice gA2 n2 gc2, .slice gA3 n3 gc3, .slice gA4 m4 gc4] (rng (w5.heap.size + 1) (w6.heap.size))) := Lib.hid (Hg.out.below hb)
        replace Ba : Hid (Box (W.heap.size) [.int .i64 f0, .slice A1 n1 c1, .slice A2 n2 c2, .slice A3 n3 c3, .slice A4 n4 c4] w7) := Lib.hid (Ba.out.below hb)
        replace Bb : Hid (Box (W.heap.size + 1) [.int .i64 g0, .int .i64 g1, .int .i64 g2, .int .i64 g3, .string g4, .slice D5 m5 j5, .int .i64 g6_0, .int .i64 g6_1, .int .i64 g7, .int .i64 g8_0, .int .i64 g8_1, .int .i64 g8_2] w7) := Lib.hid (Bb.out.below hb)
        replace Bw : Hid (Box (gw) [.int .i64 f0, .slice wA1 n1 wc1, .slice wA2 n2 wc2, .slice wA3 n3 wc3, .slice wA4 m4 wc4] w7) := Lib.hid (Bw.out.below hb)
        replace Bx : Hid (Box (w4.heap.size) [.int .i64 f0, .slice xA1 n1 xc1, .slice xA2 n2 xc2, .slice xA3 n3 xc3, .slice xA4 n4 xc4] w7) := Lib.hid (Bx.out.below hb)
        replace Bz : Hid (Box (w5.heap.size) [.int .i64 g0, .int .i64 g1, .int .i64 g2, .int .i64 g3, .string g4, .slice zA5 m5 zc5, .int .i64 g6_0, .int .i64 g6_1, .int .i64 g7, .int .i64 g8_0, .int .i64 g8_1, .int .i64 g8_2] w7) := Lib.hid (Bz.out.below hb)
        replace Bg : Hid (Box (w6.heap.size) [.int .i64 f0, .slice gA1 n1 gc1, .slice gA2 n2 gc2, .slice gA3 n3 gc3, .slice gA4 m4 gc4] w7) := Lib.hid (Bg.out.below hb)
        replace HT : Hid (Below W.heap.size W w7) := Lib.hid (HT.out.trans (hb.mono HT.out.size))
        have hsw7 : w6.heap.size + 1 ≤ w7.heap.size := (by have h1 := hb.size; (try simp only [World.size_alloc, World.size_drew] at h1); exact h1)
        clear hb
        obtain ⟨zx0, zx1, zx2, zx3, zx4⟩ := Bx.out.c5
        obtain ⟨za0, za1, za2, za3, za4⟩ := Ba.out.c5
        go_wp2_with fail
        clear zx0 zx1 zx2 zx3 zx4
        clear za0 za1 za2 za3 za4
        have hb : Below w7.heap.size w7 w7.drew := (Below.refl _ _).drew
        replace Hw : Hid (Owns w7.drew (.r [.i f0, .l L1, .l L2, .l L3, .l N4]) [.int .i64 f0, .slice wA1 n1 wc1, .slice wA2 n2 wc2, .slice wA3 n3 wc3, .slice wA4 m4 wc4] (fun b => (w2.heap.size ≤ b ∧ b ≠ gw) ∧ b < w3.heap.size)) := Lib.hid (Hw.out.below hb)
        replace Hx : Hid (Owns w7.drew (.r [.i f0, .l L1, .l L2, .l L3, .l L4]) [.int .i64 f0, .slice xA1 n1 xc1, .slice xA2 n2 xc2, .slice xA3 n3 xc3, .slice xA4 n4 xc4] (rng (w3.heap.size) (w4.heap.size))) := Lib.hid (Hx.out.below hb)
        replace Hz : Hid (Owns w7.drew (.r [.i g0, .i g1, .i g2, .i g3, .s g4, .l M5, .r [.i g6_0, .i g6_1], .i g7, .r [.i g8_0, .i g8_1, .i g8_2]]) [.int .i64 g0, .int .i64 g1, .int .i64 g2, .int .i64 g3, .string g4, .slice zA5 m5 zc5, .int .i64 g6_0, .int .i64 g6_1, .int .i64 g7, .int .i64 g8_0, .int .i64 g8_1, .int .i64 g8_2] (rng (w4.heap.size + 1) (w5.heap.size))) := Lib.hid (Hz.out.below hb)
        replace Hg : Hid (Owns w7.drew (.r [.i f0, .l L1, .l L2, .l L3, .l N4]) [.int .i64 f0, .slice gA1 n1 gc1, .slice gA2 n2 gc2, .slice gA3 n3 gc3, .slice gA4 m4 gc4] (rng (w5.heap.size + 1) (w6.heap.size))) := Lib.hid (Hg.out.below hb)
        replace Ba : Hid (Box (W.heap.size) [.int .i64 f0, .slice A1 n1 c1, .slice A2 n2 c2, .slice A3 n3 c3, .slice A4 n4 c4] w7.drew) := Lib.hid (Ba.out.below hb)
        replace Bb : Hid (Box (W.heap.size + 1) [.int .i64 g0, .int .i64 g1, .int .i64 g2, .int .i64 g3, .string g4, .slice D5 m5 j5, .int .i64 g6_0, .int .i64 g6_1, .int .i64 g7, .int .i64 g8_0, .int .i64 g8_1, .int .i64 g8_2] w7.drew) := Lib.hid (Bb.out.below hb)
        replace Bw : Hid (Box (gw) [.int .i64 f0, .slice wA1 n1 wc1, .slice wA2 n2 wc2, .slice wA3 n3 wc3, .slice wA4 m4 wc4] w7.drew) := Lib.hid (Bw.out.below hb)
        replace Bx : Hid (Box (w4.heap.size) [.int .i64 f0, .slice xA1 n1 xc1, .slice xA2 n2 xc2, .slice xA3 n3 xc3, .slice xA4 n4 xc4] w7.drew) := Lib.hid (Bx.out.below hb)
        replace Bz : Hid (Box (w5.heap.size) [.int .i64 g0, .int .i64 g1, .int .i64 g2, .int .i64 g3, .string g4, .slice zA5 m5 zc5, .int .i64 g6_0, .int .i64 g6_1, .int .i64 g7, .int .i64 g8_0, .int .i64 g8_1, .int .i64 g8_2] w7.drew) := Lib.hid (Bz.out.below hb)
        replace Bg : Hid (Box (w6.heap.size) [.int .i64 f0, .slice gA1 n1 gc1, .slice gA2 n2 gc2, .slice gA3 n3 gc3, .slice gA4 m4 gc4] w7.drew) := Lib.hid (Bg.out.below hb)
        replace HT : Hid (Below W.heap.size W w7.drew) := Lib.hid (HT.out.trans (hb.mono HT.out.size))
        clear hb
        go_region_held3 (fun w' => (w'.cell? ⟨w4.heap.size, 0, none⟩ = some (.int .i64 f0) ∧ w'.cell? ⟨w4.heap.size, 1, none⟩ = some (.slice xA1 n1 xc1) ∧ w'.cell? ⟨w4.heap.size, 2, none⟩ = some (.slice xA2 n2 xc2) ∧ w'.cell? ⟨w4.heap.size, 3, none⟩ = some (.slice xA3 n3 xc3) ∧ w'.cell? ⟨w4.heap.size, 4, none⟩ = some (.slice xA4 n4 xc4)) ∧ (w'.cell? ⟨W.heap.size, 0, none⟩ = some (.int .i64 f0) ∧ w'.cell? ⟨W.heap.size, 1, none⟩ = some (.slice A1 n1 c1) ∧ w'.cell? ⟨W.heap.size, 2, none⟩ = some (.slice A2 n2 c2) ∧ w'.cell? ⟨W.heap.size, 3, none⟩ = some (.slice A3 n3 c3) ∧ w'.cell? ⟨W.heap.size, 4, none⟩ = some (.slice A4 n4 c4)))
          (first | with_reducible exact ⟨Bx.out.c5, Ba.out.c5⟩ | go_keep)
          (first
          | (go_at_call 7; (with_reducible refine (toVat f0 L1 A1 n1 c1 L2 A2 n2 c2 L3 A3 n3 c3 L4 A4 n4 c4 _ (Za1.out.below HT.out) ht1 hqa1 (Za2.out.below HT.out) ht2 hqa2 (Za3.out.below HT.out) ht3 hqa3 (Za4.out.below HT.out) ht4 hqa4).mono ?_); rintro e u17 ⟨uA1, uc1, uA2, uc2, uA3, uc3, uA4, uc4, a1, a2, a3, rfl, hO1, hO2, hO3, hO4, ha0, ha1, ha2, ha3, hb⟩; replace Hw : Hid (Owns u17 (.r [.i f0, .l L1, .l L2, .l L3, .l N4]) [.int .i64 f0, .slice wA1 n1 wc1, .slice wA2 n2 wc2, .slice wA3 n3 wc3, .slice wA4 m4 wc4] (fun b => (w2.heap.size ≤ b ∧ b ≠ gw) ∧ b < w3.heap.size)) := Lib.hid (Hw.out.below hb); replace Hx : Hid (Owns u17 (.r [.i f0, .l L1, .l L2, .l L3, .l L4]) [.int .i64 f0, .slice xA1 n1 xc1, .slice xA2 n2 xc2, .slice xA3 n3 xc3, .slice xA4 n4 xc4] (rng (w3.heap.size) (w4.heap.size))) := Lib.hid (Hx.out.below hb); replace Hz : Hid (Owns u17 (.r [.i g0, .i g1, .i g2, .i g3, .s g4, .l M5, .r [.i g6_0, .i g6_1], .i g7, .r [.i g8_0, .i g8_1, .i g8_2]]) [.int .i64 g0, .int .i64 g1, .int .i64 g2, .int .i64 g3, .string g4, .slice zA5 m5 zc5, .int .i64 g6_0, .int .i64 g6_1, .int .i64 g7, .int .i64 g8_0, .int .i64 g8_1, .int .i64 g8_2] (rng (w4.heap.size + 1) (w5.heap.size))) := Lib.hid (Hz.out.below hb); replace Hg : Hid (Owns u17 (.r [.i f0, .l L1, .l L2, .l L3, .l N4]) [.int .i64 f0, .slice gA1 n1 gc1, .slice gA2 n2 gc2, .slice gA3 n3 gc3, .slice gA4 m4 gc4] (rng (w5.heap.size + 1) (w6.heap.size))) := Lib.hid (Hg.out.below hb); replace Ba : Hid (Box (W.heap.size) [.int .i64 f0, .slice A1 n1 c1, .slice A2 n2 c2, .slice A3 n3 c3, .slice A4 n4 c4] u17) := Lib.hid (Ba.out.below hb); replace Bb : Hid (Box (W.heap.size + 1) [.int .i64 g0, .int .i64 g1, .int .i64 g2, .int .i64 g3, .string g4, .slice D5 m5 j5, .int .i64 g6_0, .int .i64 g6_1, .int .i64 g7, .int .i64 g8_0, .int .i64 g8_1, .int .i64 g8_2] u17) := Lib.hid (Bb.out.below hb); replace Bw : Hid (Box (gw) [.int .i64 f0, .slice wA1 n1 wc1, .slice wA2 n2 wc2, .slice wA3 n3 wc3, .slice wA4 m4 wc4] u17) := Lib.hid (Bw.out.below hb); replace Bx : Hid (Box (w4.heap.size) [.int .i64 f0, .slice xA1 n1 xc1, .slice xA2 n2 xc2, .slice xA3 n3 xc3, .slice xA4 n4 xc4] u17) := Lib.hid (Bx.out.below hb); replace Bz : Hid (Box (w5.heap.size) [.int .i64 g0, .int .i64 g1, .int .i64 g2, .int .i64 g3, .string g4, .slice zA5 m5 zc5, .int .i64 g6_0, .int .i64 g6_1, .int .i64 g7, .int .i64 g8_0, .int .i64 g8_1, .int .i64 g8_2] u17) := Lib.hid (Bz.out.below hb); replace Bg : Hid (Box (w6.heap.size) [.int .i64 f0, .slice gA1 n1 gc1, .slice gA2 n2 gc2, .slice gA3 n3 gc3, .slice gA4 m4 gc4] u17) := Lib.hid (Bg.out.below hb); replace HT : Hid (Below W.heap.size W u17) := Lib.hid (HT.out.trans (hb.mono HT.out.size)); have hsu17 : w7.heap.size ≤ u17.heap.size := (by have h1 := hb.size; (try simp only [World.size_alloc, World.size_drew] at h1); exact h1); have Hu : Hid (Owns u17 (.r [.i f0, .l L1, .l L2, .l L3, .l L4]) [.int .i64 f0, .slice uA1 n1 uc1, .slice uA2 n2 uc2, .slice uA3 n3 uc3, .slice uA4 n4 uc4] (rng (w7.heap.size) (u17.heap.size))) := Lib.hid (by refine Owns.mono (fun b hb => ?_) (ownVat hO1 hO2 hO3 hO4 ha0 ha1 ha2 ha3); have h1 := hb.1; have h2 := hb.2; (try simp only [World.size_alloc, World.size_drew] at h1 h2); exact ⟨by omega, by omega⟩); clear hO1 hO2 hO3 hO4 ha0 ha1 ha2 ha3 hb)
          | (go_at_call 10; (with_reducible refine (eqVat f0 L1 xA1 n1 xc1 L2 xA2 n2 xc2 L3 xA3 n3 xc3 L4 xA4 n4 xc4 uA1 uc1 uA2 uc2 uA3 uc3 uA4 uc4 _ (liesVat1 Hx.out) (liesVat1 Hu.out) ht1 hm1 (liesVat2 Hx.out) (liesVat2 Hu.out) ht2 hm2 (liesVat3 Hx.out) (liesVat3 Hu.out) ht3 hm3 (liesVat4 Hx.out) (liesVat4 Hu.out) ht4 hm4).mono ?_); rintro e u18 ⟨rfl, hb⟩; replace Hw : Hid (Owns u18 (.r [.i f0, .l L1, .l L2, .l L3, .l N4]) [.int .i64 f0, .slice wA1 n1 wc1, .slice wA2 n2 wc2, .slice wA3 n3 wc3, .slice wA4 m4 wc4] (fun b => (w2.heap.size ≤ b ∧ b ≠ gw) ∧ b < w3.heap.size)) := Lib.hid (Hw.out.below hb); replace Hx : Hid (Owns u18 (.r [.i f0, .l L1, .l L2, .l L3, .l L4]) [.int .i64 f0, .slice xA1 n1 xc1, .slice xA2 n2 xc2, .slice xA3 n3 xc3, .slice xA4 n4 xc4] (rng (w3.heap.size) (w4.heap.size))) := Lib.hid (Hx.out.below hb); replace Hz : Hid (Owns u18 (.r [.i g0, .i g1, .i g2, .i g3, .s g4, .l M5, .r [.i g6_0, .i g6_1], .i g7, .r [.i g8_0, .i g8_1, .i g8_2]]) [.int .i64 g0, .int .i64 g1, .int .i64 g2, .int .i64 g3, .string g4, .slice zA5 m5 zc5, .int .i64 g6_0, .int .i64 g6_1, .int .i64 g7, .int .i64 g8_0, .int .i64 g8_1, .int .i64 g8_2] (rng (w4.heap.size + 1) (w5.heap.size))) := Lib.hid (Hz.out.below hb); replace Hg : Hid (Owns u18 (.r [.i f0, .l L1, .l L2, .l L3, .l N4]) [.int .i64 f0, .slice gA1 n1 gc1, .slice gA2 n2 gc2, .slice gA3 n3 gc3, .slice gA4 m4 gc4] (rng (w5.heap.size + 1) (w6.heap.size))) := Lib.hid (Hg.out.below hb); replace Hu : Hid (Owns u18 (.r [.i f0, .l L1, .l L2, .l L3, .l L4]) [.int .i64 f0, .slice uA1 n1 uc1, .slice uA2 n2 uc2, .slice uA3 n3 uc3, .slice uA4 n4 uc4] (rng (w7.heap.size) (u17.heap.size))) := Lib.hid (Hu.out.below hb); replace Ba : Hid (Box (W.heap.size) [.int .i64 f0, .slice A1 n1 c1, .slice A2 n2 c2, .slice A3 n3 c3, .slice A4 n4 c4] u18) := Lib.hid (Ba.out.below hb); replace Bb : Hid (Box (W.heap.size + 1) [.int .i64 g0, .int .i64 g1, .int .i64 g2, .int .i64 g3, .string g4, .slice D5 m5 j5, .int .i64 g6_0, .int .i64 g6_1, .int .i64 g7, .int .i64 g8_0, .int .i64 g8_1, .int .i64 g8_2] u18) := Lib.hid (Bb.out.below hb); replace Bw : Hid (Box (gw) [.int .i64 f0, .slice wA1 n1 wc1, .slice wA2 n2 wc2, .slice wA3 n3 wc3, .slice wA4 m4 wc4] u18) := Lib.hid (Bw.out.below hb); replace Bx : Hid (Box (w4.heap.size) [.int .i64 f0, .slice xA1 n1 xc1, .slice xA2 n2 xc2, .slice xA3 n3 xc3, .slice xA4 n4 xc4] u18) := Lib.hid (Bx.out.below hb); replace Bz : Hid (Box (w5.heap.size) [.int .i64 g0, .int .i64 g1, .int .i64 g2, .int .i64 g3, .string g4, .slice zA5 m5 zc5, .int .i64 g6_0, .int .i64 g6_1, .int .i64 g7, .int .i64 g8_0, .int .i64 g8_1, .int .i64 g8_2] u18) := Lib.hid (Bz.out.below hb); replace Bg : Hid (Box (w6.heap.size) [.int .i64 f0, .slice gA1 n1 gc1, .slice gA2 n2 gc2, .slice gA3 n3 gc3, .slice gA4 m4 gc4] u18) := Lib.hid (Bg.out.below hb); replace HT : Hid (Below W.heap.size W u18) := Lib.hid (HT.out.trans (hb.mono HT.out.size)); have hsu18 : u17.heap.size ≤ u18.heap.size := hb.size; clear hb))
        all_goals (
          clear Hu
          obtain ⟨zz0, zz1, zz2, zz3, zz4, zz5, zz6, zz7, zz8, zz9, zz10, zz11⟩ := Bz.out.c12
          obtain ⟨zb0, zb1, zb2, zb3, zb4, zb5, zb6, zb7, zb8, zb9, zb10, zb11⟩ := Bb.out.c12
          go_wp2_with fail
          clear zz0 zz1 zz2 zz3 zz4 zz5 zz6 zz7 zz8 zz9 zz10 zz11
          clear zb0 zb1 zb2 zb3 zb4 zb5 zb6 zb7 zb8 zb9 zb10 zb11
          have hb : Below u18.heap.size u18 u18.drew := (Below.refl _ _).drew
          replace Hw : Hid (Owns u18.drew (.r [.i f0, .l L1, .l L2, .l L3, .l N4]) [.int .i64 f0, .slice wA1 n1 wc1, .slice wA2 n2 wc2, .slice wA3 n3 wc3, .slice wA4 m4 wc4] (fun b => (w2.heap.size ≤ b ∧ b ≠ gw) ∧ b < w3.heap.size)) := Lib.hid (Hw.out.below hb)
          replace Hx : Hid (Owns u18.drew (.r [.i f0, .l L1, .l L2, .l L3, .l L4]) [.int .i64 f0, .slice xA1 n1 xc1, .slice xA2 n2 xc2, .slice xA3 n3 xc3, .slice xA4 n4 xc4] (rng (w3.heap.size) (w4.heap.size))) := Lib.hid (Hx.out.below hb)
          replace Hz : Hid (Owns u18.drew (.r [.i g0, .i g1, .i g2, .i g3, .s g4, .l M5, .r [.i g6_0, .i g6_1], .i g7, .r [.i g8_0, .i g8_1, .i g8_2]]) [.int .i64 g0, .int .i64 g1, .int .i64 g2, .int .i64 g3, .string g4, .slice zA5 m5 zc5, .int .i64 g6_0, .int .i64 g6_1, .int .i64 g7, .int .i64 g8_0, .int .i64 g8_1, .int .i64 g8_2] (rng (w4.heap.size + 1) (w5.heap.size))) := Lib.hid (Hz.out.below hb)
          replace Hg : Hid (Owns u18.drew (.r [.i f0, .l L1, .l L2, .l L3, .l N4]) [.int .i64 f0, .slice gA1 n1 gc1, .slice gA2 n2 gc2, .slice gA3 n3 gc3, .slice gA4 m4 gc4] (rng (w5.heap.size + 1) (w6.heap.size))) := Lib.hid (Hg.out.below hb)
          replace Ba : Hid (Box (W.heap.size) [.int .i64 f0, .slice A1 n1 c1, .slice A2 n2 c2, .slice A3 n3 c3, .slice A4 n4 c4] u18.drew) := Lib.hid (Ba.out.below hb)
          replace Bb : Hid (Box (W.heap.size + 1) [.int .i64 g0, .int .i64 g1, .int .i64 g2, .int .i64 g3, .string g4, .slice D5 m5 j5, .int .i64 g6_0, .int .i64 g6_1, .int .i64 g7, .int .i64 g8_0, .int .i64 g8_1, .int .i64 g8_2] u18.drew) := Lib.hid (Bb.out.below hb)
          replace Bw : Hid (Box (gw) [.int .i64 f0, .slice wA1 n1 wc1, .slice wA2 n2 wc2, .slice wA3 n3 wc3, .slice wA4 m4 wc4] u18.drew) := Lib.hid (Bw.out.below hb)
          replace Bx : Hid (Box (w4.heap.size) [.int .i64 f0, .slice xA1 n1 xc1, .slice xA2 n2 xc2, .slice xA3 n3 xc3, .slice xA4 n4 xc4] u18.drew) := Lib.hid (Bx.out.below hb)
          replace Bz : Hid (Box (w5.heap.size) [.int .i64 g0, .int .i64 g1, .int .i64 g2, .int .i64 g3, .string g4, .slice zA5 m5 zc5, .int .i64 g6_0, .int .i64 g6_1, .int .i64 g7, .int .i64 g8_0, .int .i64 g8_1, .int .i64 g8_2] u18.drew) := Lib.hid (Bz.out.below hb)
          replace Bg : Hid (Box (w6.heap.size) [.int .i64 f0, .slice gA1 n1 gc1, .slice gA2 n2 gc2, .slice gA3 n3 gc3, .slice gA4 m4 gc4] u18.drew) := Lib.hid (Bg.out.below hb)
          replace HT : Hid (Below W.heap.size W u18.drew) := Lib.hid (HT.out.trans (hb.mono HT.out.size))
          clear hb
          go_region_held3 (fun w' => (w'.cell? ⟨w5.heap.size, 0, none⟩ = some (.int .i64 g0) ∧ w'.cell? ⟨w5.heap.size, 1, none⟩ = some (.int .i64 g1) ∧ w'.cell? ⟨w5.heap.size, 2, none⟩ = some (.int .i64 g2) ∧ w'.cell? ⟨w5.heap.size, 3, none⟩ = some (.int .i64 g3) ∧ w'.cell? ⟨w5.heap.size, 4, none⟩ = some (.string g4) ∧ w'.cell? ⟨w5.heap.size, 5, none⟩ = some (.slice zA5 m5 zc5) ∧ w'.cell? ⟨w5.heap.size, 6, none⟩ = some (.int .i64 g6_0) ∧ w'.cell? ⟨w5.heap.size, 7, none⟩ = some (.int .i64 g6_1) ∧ w'.cell? ⟨w5.heap.size, 8, none⟩ = some (.int .i64 g7) ∧ w'.cell? ⟨w5.heap.size, 9, none⟩ = some (.int .i64 g8_0) ∧ w'.cell? ⟨w5.heap.size, 10, none⟩ = some (.int .i64 g8_1) ∧ w'.cell? ⟨w5.heap.size, 11, none⟩ = some (.int .i64 g8_2)) ∧ (w'.cell? ⟨W.heap.size + 1, 0, none⟩ = some (.int .i64 g0) ∧ w'.cell? ⟨W.heap.size + 1, 1, none⟩ = some (.int .i64 g1) ∧ w'.cell? ⟨W.heap.size + 1, 2, none⟩ = some (.int .i64 g2) ∧ w'.cell? ⟨W.heap.size + 1, 3, none⟩ = some (.int .i64 g3) ∧ w'.cell? ⟨W.heap.size + 1, 4, none⟩ = some (.string g4) ∧ w'.cell? ⟨W.heap.size + 1, 5, none⟩ = some (.slice D5 m5 j5) ∧ w'.cell? ⟨W.heap.size + 1, 6, none⟩ = some (.int .i64 g6_0) ∧ w'.cell? ⟨W.heap.size + 1, 7, none⟩ = some (.int .i64 g6_1) ∧ w'.cell? ⟨W.heap.size + 1, 8, none⟩ = some (.int .i64 g7) ∧ w'.cell? ⟨W.heap.size + 1, 9, none⟩ = some (.int .i64 g8_0) ∧ w'.cell? ⟨W.heap.size + 1, 10, none⟩ = some (.int .i64 g8_1) ∧ w'.cell? ⟨W.heap.size + 1, 11, none⟩ = some (.int .i64 g8_2)))
            (first | with_reducible exact ⟨Bz.out.c12, Bb.out.c12⟩ | go_keep)
            (first
            | (go_at_call 8; (with_reducible refine (toMessage g0 g1 g2 g3 g4 M5 D5 m5 j5 g6_0 g6_1 g7 g8_0 g8_1 g8_2 _ (Zb5.out.below HT.out) hf5 hqb5).mono ?_); rintro e u27 ⟨uA5, uc5, rfl, hO5, hb⟩; replace Hw : Hid (Owns u27 (.r [.i f0, .l L1, .l L2, .l L3, .l N4]) [.int .i64 f0, .slice wA1 n1 wc1, .slice wA2 n2 wc2, .slice wA3 n3 wc3, .slice wA4 m4 wc4] (fun b => (w2.heap.size ≤ b ∧ b ≠ gw) ∧ b < w3.heap.size)) := Lib.hid (Hw.out.below hb); replace Hx : Hid (Owns u27 (.r [.i f0, .l L1, .l L2, .l L3, .l L4]) [.int .i64 f0, .slice xA1 n1 xc1, .slice xA2 n2 xc2, .slice xA3 n3 xc3, .slice xA4 n4 xc4] (rng (w3.heap.size) (w4.heap.size))) := Lib.hid (Hx.out.below hb); replace Hz : Hid (Owns u27 (.r [.i g0, .i g1, .i g2, .i g3, .s g4, .l M5, .r [.i g6_0, .i g6_1], .i g7, .r [.i g8_0, .i g8_1, .i g8_2]]) [.int .i64 g0, .int .i64 g1, .int .i64 g2, .int .i64 g3, .string g4, .slice zA5 m5 zc5, .int .i64 g6_0, .int .i64 g6_1, .int .i64 g7, .int .i64 g8_0, .int .i64 g8_1, .int .i64 g8_2] (rng (w4.heap.size + 1) (w5.heap.size))) := Lib.hid (Hz.out.below hb); replace Hg : Hid (Owns u27 (.r [.i f0, .l L1, .l L2, .l L3, .l N4]) [.int .i64 f0, .slice gA1 n1 gc1, .slice gA2 n2 gc2, .slice gA3 n3 gc3, .slice gA4 m4 gc4] (rng (w5.heap.size + 1) (w6.heap.size))) := Lib.hid (Hg.out.below hb); replace Ba : Hid (Box (W.heap.size) [.int .i64 f0, .slice A1 n1 c1, .slice A2 n2 c2, .slice A3 n3 c3, .slice A4 n4 c4] u27) := Lib.hid (Ba.out.below hb); replace Bb : Hid (Box (W.heap.size + 1) [.int .i64 g0, .int .i64 g1, .int .i64 g2, .int .i64 g3, .string g4, .slice D5 m5 j5, .int .i64 g6_0, .int .i64 g6_1, .int .i64 g7, .int .i64 g8_0, .int .i64 g8_1, .int .i64 g8_2] u27) := Lib.hid (Bb.out.below hb); replace Bw : Hid (Box (gw) [.int .i64 f0, .slice wA1 n1 wc1, .slice wA2 n2 wc2, .slice wA3 n3 wc3, .slice wA4 m4 wc4] u27) := Lib.hid (Bw.out.below hb); replace Bx : Hid (Box (w4.heap.size) [.int .i64 f0, .slice xA1 n1 xc1, .slice xA2 n2 xc2, .slice xA3 n3 xc3, .slice xA4 n4 xc4] u27) := Lib.hid (Bx.out.below hb); replace Bz : Hid (Box (w5.heap.size) [.int .i64 g0, .int .i64 g1, .int .i64 g2, .int .i64 g3, .string g4, .slice zA5 m5 zc5, .int .i64 g6_0, .int .i64 g6_1, .int .i64 g7, .int .i64 g8_0, .int .i64 g8_1, .int .i64 g8_2] u27) := Lib.hid (Bz.out.below hb); replace Bg : Hid (Box (w6.heap.size) [.int .i64 f0, .slice gA1 n1 gc1, .slice gA2 n2 gc2, .slice gA3 n3 gc3, .slice gA4 m4 gc4] u27) := Lib.hid (Bg.out.below hb); replace HT : Hid (Below W.heap.size W u27) := Lib.hid (HT.out.trans (hb.mono HT.out.size)); have hsu27 : u18.heap.size ≤ u27.heap.size := (by have h1 := hb.size; (try simp only [World.size_alloc, World.size_drew] at h1); exact h1); have Hu : Hid (Owns u27 (.r [.i g0, .i g1, .i g2, .i g3, .s g4, .l M5, .r [.i g6_0, .i g6_1], .i g7, .r [.i g8_0, .i g8_1, .i g8_2]]) [.int .i64 g0, .int .i64 g1, .int .i64 g2, .int .i64 g3, .string g4, .slice uA5 m5 uc5, .int .i64 g6_0, .int .i64 g6_1, .int .i64 g7, .int .i64 g8_0, .int .i64 g8_1, .int .i64 g8_2] (rng (u18.heap.size) (u27.heap.size))) := Lib.hid (by refine Owns.mono (fun b hb => ?_) (ownMessage hO5 hb.size); have h1 := hb.1; have h2 := hb.2; (try simp only [World.size_alloc, World.size_drew] at h1 h2); exact ⟨by omega, by omega⟩); clear hO5 hb)
            | (go_at_call 11; (with_reducible refine (eqMessage g0 g1 g2 g3 g4 M5 zA5 m5 zc5 g6_0 g6_1 g7 g8_0 g8_1 g8_2 uA5 uc5 _ (liesMessage5 Hz.out) (liesMessage5 Hu.out) hf5 hb5).mono ?_); rintro e u28 ⟨rfl, hb⟩; replace Hw : Hid (Owns u28 (.r [.i f0, .l L1, .l L2, .l L3, .l N4]) [.int .i64 f0, .slice wA1 n1 wc1, .slice wA2 n2 wc2, .slice wA3 n3 wc3, .slice wA4 m4 wc4] (fun b => (w2.heap.size ≤ b ∧ b ≠ gw) ∧ b < w3.heap.size)) := Lib.hid (Hw.out.below hb); replace Hx : Hid (Owns u28 (.r [.i f0, .l L1, .l L2, .l L3, .l L4]) [.int .i64 f0, .slice xA1 n1 xc1, .slice xA2 n2 xc2, .slice xA3 n3 xc3, .slice xA4 n4 xc4] (rng (w3.heap.size) (w4.heap.size))) := Lib.hid (Hx.out.below hb); replace Hz : Hid (Owns u28 (.r [.i g0, .i g1, .i g2, .i g3, .s g4, .l M5, .r [.i g6_0, .i g6_1], .i g7, .r [.i g8_0, .i g8_1, .i g8_2]]) [.int .i64 g0, .int .i64 g1, .int .i64 g2, .int .i64 g3, .string g4, .slice zA5 m5 zc5, .int .i64 g6_0, .int .i64 g6_1, .int .i64 g7, .int .i64 g8_0, .int .i64 g8_1, .int .i64 g8_2] (rng (w4.heap.size + 1) (w5.heap.size))) := Lib.hid (Hz.out.below hb); replace Hg : Hid (Owns u28 (.r [.i f0, .l L1, .l L2, .l L3, .l N4]) [.int .i64 f0, .slice gA1 n1 gc1, .slice gA2 n2 gc2, .slice gA3 n3 gc3, .slice gA4 m4 gc4] (rng (w5.heap.size + 1) (w6.heap.size))) := Lib.hid (Hg.out.below hb); replace Hu : Hid (Owns u28 (.r [.i g0, .i g1, .i g2, .i g3, .s g4, .l M5, .r [.i g6_0, .i g6_1], .i g7, .r [.i g8_0, .i g8_1, .i g8_2]]) [.int .i64 g0, .int .i64 g1, .int .i64 g2, .int .i64 g3, .string g4, .slice uA5 m5 uc5, .int .i64 g6_0, .int .i64 g6_1, .int .i64 g7, .int .i64 g8_0, .int .i64 g8_1, .int .i64 g8_2] (rng (u18.heap.size) (u27.heap.size))) := Lib.hid (Hu.out.below hb); replace Ba : Hid (Box (W.heap.size) [.int .i64 f0, .slice A1 n1 c1, .slice A2 n2 c2, .slice A3 n3 c3, .slice A4 n4 c4] u28) := Lib.hid (Ba.out.below hb); replace Bb : Hid (Box (W.heap.size + 1) [.int .i64 g0, .int .i64 g1, .int .i64 g2, .int .i64 g3, .string g4, .slice D5 m5 j5, .int .i64 g6_0, .int .i64 g6_1, .int .i64 g7, .int .i64 g8_0, .int .i64 g8_1, .int .i64 g8_2] u28) := Lib.hid (Bb.out.below hb); replace Bw : Hid (Box (gw) [.int .i64 f0, .slice wA1 n1 wc1, .slice wA2 n2 wc2, .slice wA3 n3 wc3, .slice wA4 m4 wc4] u28) := Lib.hid (Bw.out.below hb); replace Bx : Hid (Box (w4.heap.size) [.int .i64 f0, .slice xA1 n1 xc1, .slice xA2 n2 xc2, .slice xA3 n3 xc3, .slice xA4 n4 xc4] u28) := Lib.hid (Bx.out.below hb); replace Bz : Hid (Box (w5.heap.size) [.int .i64 g0, .int .i64 g1, .int .i64 g2, .int .i64 g3, .string g4, .slice zA5 m5 zc5, .int .i64 g6_0, .int .i64 g6_1, .int .i64 g7, .int .i64 g8_0, .int .i64 g8_1, .int .i64 g8_2] u28) := Lib.hid (Bz.out.below hb); replace Bg : Hid (Box (w6.heap.size) [.int .i64 f0, .slice gA1 n1 gc1, .slice gA2 n2 gc2, .slice gA3 n3 gc3, .slice gA4 m4 gc4] u28) := Lib.hid (Bg.out.below hb); replace HT : Hid (Below W.heap.size W u28) := Lib.hid (HT.out.trans (hb.mono HT.out.size)); have hsu28 : u27.heap.size ≤ u28.heap.size := hb.size; clear hb))
          all_goals (
            clear Hu
            obtain ⟨zx0, zx1, zx2, zx3, zx4⟩ := Bx.out.c5
            go_wp2_with fail
            refine (markRVat f0 L1 xA1 n1 xc1 L2 xA2 n2 xc2 L3 xA3 n3 xc3 L4 xA4 n4 xc4 (1) (rng (w3.heap.size) (w4.heap.size)) _ Hx.out ht1 hN1 ht2 hN2 ht3 hN3 ht4 hN4 (by omega) (by omega) (fun b hb => by have hA := hb.1; have hB := hb.2; omega)).mono ?_
            rintro e w28 ⟨rfl, hO, hT⟩
            clear zx0 zx1 zx2 zx3 zx4
            replace Hw : Hid (Owns w28 (.r [.i f0, .l L1, .l L2, .l L3, .l N4]) [.int .i64 f0, .slice wA1 n1 wc1, .slice wA2 n2 wc2, .slice wA3 n3 wc3, .slice wA4 m4 wc4] (fun b => (w2.heap.size ≤ b ∧ b ≠ gw) ∧ b < w3.heap.size)) := Lib.hid (Hw.out.touch hT (fun b h1 h2 => by have pA := h1.1.1; have pB := h1.2; have pC := h1.1.2; have qA := h2.1; have qB := h2.2; omega))
            replace Hz : Hid (Owns w28 (.r [.i g0, .i g1, .i g2, .i g3, .s g4, .l M5, .r [.i g6_0, .i g6_1], .i g7, .r [.i g8_0, .i g8_1, .i g8_2]]) [.int .i64 g0, .int .i64 g1, .int .i64 g2, .int .i64 g3, .string g4, .slice zA5 m5 zc5, .int .i64 g6_0, .int .i64 g6_1, .int .i64 g7, .int .i64 g8_0, .int .i64 g8_1, .int .i64 g8_2] (rng (w4.heap.size + 1) (w5.heap.size))) := Lib.hid (Hz.out.touch hT (fun b h1 h2 => by have pA := h1.1; have pB := h1.2; have qA := h2.1; have qB := h2.2; omega))
            replace Hg : Hid (Owns w28 (.r [.i f0, .l L1, .l L2, .l L3, .l N4]) [.int .i64 f0, .slice gA1 n1 gc1, .slice gA2 n2 gc2, .slice gA3 n3 gc3, .slice gA4 m4 gc4] (rng (w5.heap.size + 1) (w6.heap.size))) := Lib.hid (Hg.out.touch hT (fun b h1 h2 => by have pA := h1.1; have pB := h1.2; have qA := h2.1; have qB := h2.2; omega))
            replace Ba : Hid (Box (W.heap.size) [.int .i64 f0, .slice A1 n1 c1, .slice A2 n2 c2, .slice A3 n3 c3, .slice A4 n4 c4] w28) := Lib.hid (Ba.out.touch hT (fun h2 => by have qA := h2.1; have qB := h2.2; omega))
            replace Bb : Hid (Box (W.heap.size + 1) [.int .i64 g0, .int .i64 g1, .int .i64 g2, .int .i64 g3, .string g4, .slice D5 m5 j5, .int .i64 g6_0, .int .i64 g6_1, .int .i64 g7, .int .i64 g8_0, .int .i64 g8_1, .int .i64 g8_2] w28) := Lib.hid (Bb.out.touch hT (fun h2 => by have qA := h2.1; have qB := h2.2; omega))
            replace Bw : Hid (Box (gw) [.int .i64 f0, .slice wA1 n1 wc1, .slice wA2 n2 wc2, .slice wA3 n3 wc3, .slice wA4 m4 wc4] w28) := Lib.hid (Bw.out.touch hT (fun h2 => by have qA := h2.1; have qB := h2.2; omega))
            replace Bx : Hid (Box (w4.heap.size) [.int .i64 f0, .slice xA1 n1 xc1, .slice xA2 n2 xc2, .slice xA3 n3 xc3, .slice xA4 n4 xc4] w28) := Lib.hid (Bx.out.touch hT (fun h2 => by have qA := h2.1; have qB := h2.2; omega))
            replace Bz : Hid (Box (w5.heap.size) [.int .i64 g0, .int .i64 g1, .int .i64 g2, .int .i64 g3, .string g4, .slice zA5 m5 zc5, .int .i64 g6_0, .int .i64 g6_1, .int .i64 g7, .int .i64 g8_0, .int .i64 g8_1, .int .i64 g8_2] w28) := Lib.hid (Bz.out.touch hT (fun h2 => by have qA := h2.1; have qB := h2.2; omega))
            replace Bg : Hid (Box (w6.heap.size) [.int .i64 f0, .slice gA1 n1 gc1, .slice gA2 n2 gc2, .slice gA3 n3 gc3, .slice gA4 m4 gc4] w28) := Lib.hid (Bg.out.touch hT (fun h2 => by have qA := h2.1; have qB := h2.2; omega))
            replace HT : Hid (Below W.heap.size W w28) := Lib.hid (HT.out.trans (hT.below (fun b h2 => by have qA := h2.1; have qB := h2.2; omega) HT.out.size))
            have hsw28 : u28.heap.size ≤ w28.heap.size := hT.size
            replace Hx : Hid (Owns w28 (.r [.i f0, .l (mkAll L1 (1)), .l (mkAll L2 (1 + cntAll L1)), .l (mkAll L3 (1 + cntAll L1 + cntAll L2)), .l (mkAll L4 (1 + cntAll L1 + cntAll L2 + cntAll L3))]) [.int .i64 f0, .slice xA1 n1 xc1, .slice xA2 n2 xc2, .slice xA3 n3 xc3, .slice xA4 n4 xc4] (rng (w3.heap.size) (w4.heap.size))) := Lib.hid hO
            clear hO hT
            have hk1 : (0 : Int) ≤ 1 + cntAll L1 + cntAll L2 + cntAll L3 + cntAll L4 := by omega
            obtain ⟨zz0, zz1, zz2, zz3, zz4, zz5, zz6, zz7, zz8, zz9, zz10, zz11⟩ := Bz.out.c12
            go_wp2_with fail
            refine (markRMessage g0 g1 g2 g3 g4 M5 zA5 m5 zc5 g6_0 g6_1 g7 g8_0 g8_1 g8_2 (1 + cntAll L1 + cntAll L2 + cntAll L3 + cntAll L4) (rng (w4.heap.size + 1) (w5.heap.size)) _ Hz.out hf5 hP5 (by omega) (by omega) (fun b hb => by have hA := hb.1; have hB := hb.2; omega)).mono ?_
            rintro e w29 ⟨rfl, hO, hT⟩
            clear zz0 zz1 zz2 zz3 zz4 zz5 zz6 zz7 zz8 zz9 zz10 zz11
            replace Hw : Hid (Owns w29 (.r [.i f0, .l L1, .l L2, .l L3, .l N4]) [.int .i64 f0, .slice wA1 n1 wc1, .slice wA2 n2 wc2, .slice wA3 n3 wc3, .slice wA4 m4 wc4] (fun b => (w2.heap.size ≤ b ∧ b ≠ gw) ∧ b < w3.heap.size)) := Lib.hid (Hw.out.touch hT (fun b h1 h2 => by have pA := h1.1.1; have pB := h1.2; have pC := h1.1.2; have qA := h2.1; have qB := h2.2; omega))
            replace Hx : Hid (Owns w29 (.r [.i f0, .l (mkAll L1 (1)), .l (mkAll L2 (1 + cntAll L1)), .l (mkAll L3 (1 + cntAll L1 + cntAll L2)), .l (mkAll L4 (1 + cntAll L1 + cntAll L2 + cntAll L3))]) [.int .i64 f0, .slice xA1 n1 xc1, .slice xA2 n2 xc2, .slice xA3 n3 xc3, .slice xA4 n4 xc4] (rng (w3.heap.size) (w4.heap.size))) := Lib.hid (Hx.out.touch hT (fun b h1 h2 => by have pA := h1.1; have pB := h1.2; have qA := h2.1; have qB := h2.2; omega))
            replace Hg : Hid (Owns w29 (.r [.i f0, .l L1, .l L2, .l L3, .l N4]) [.int .i64 f0, .slice gA1 n1 gc1, .slice gA2 n2 gc2, .slice gA3 n3 gc3, .slice gA4 m4 gc4] (rng (w5.heap.size + 1) (w6.heap.size))) := Lib.hid (Hg.out.touch hT (fun b h1 h2 => by have pA := h1.1; have pB := h1.2; have qA := h2.1; have qB := h2.2; omega))
            replace Ba : Hid (Box (W.heap.size) [.int .i64 f0, .slice A1 n1 c1, .slice A2 n2 c2, .slice A3 n3 c3, .slice A4 n4 c4] w29) := Lib.hid (Ba.out.touch hT (fun h2 => by have qA := h2.1; have qB := h2.2; omega))
            replace Bb : Hid (Box (W.heap.size + 1) [.int .i64 g0, .int .i64 g1, .int .i64 g2, .int .i64 g3, .string g4, .slice D5 m5 j5, .int .i64 g6_0, .int .i64 g6_1, .int .i64 g7, .int .i64 g8_0, .int .i64 g8_1, .int .i64 g8_2] w29) := Lib.hid (Bb.out.touch hT (fun h2 => by have qA := h2.1; have qB := h2.2; omega))
            replace Bw : Hid (Box (gw) [.int .i64 f0, .slice wA1 n1 wc1, .slice wA2 n2 wc2, .slice wA3 n3 wc3, .slice wA4 m4 wc4] w29) := Lib.hid (Bw.out.touch hT (fun h2 => by have qA := h2.1; have qB := h2.2; omega))
            replace Bx : Hid (Box (w4.heap.size) [.int .i64 f0, .slice xA1 n1 xc1, .slice xA2 n2 xc2, .slice xA3 n3 xc3, .slice xA4 n4 xc4] w29) := Lib.hid (Bx.out.touch hT (fun h2 => by have qA := h2.1; have qB := h2.2; omega))
            replace Bz : Hid (Box (w5.heap.size) [.int .i64 g0, .int .i64 g1, .int .i64 g2, .int .i64 g3, .string g4, .slice zA5 m5 zc5, .int .i64 g6_0, .int .i64 g6_1, .int .i64 g7, .int .i64 g8_0, .int .i64 g8_1, .int .i64 g8_2] w29) := Lib.hid (Bz.out.touch hT (fun h2 => by have qA := h2.1; have qB := h2.2; omega))
            replace Bg : Hid (Box (w6.heap.size) [.int .i64 f0, .slice gA1 n1 gc1, .slice gA2 n2 gc2, .slice gA3 n3 gc3, .slice gA4 m4 gc4] w29) := Lib.hid (Bg.out.touch hT (fun h2 => by have qA := h2.1; have qB := h2.2; omega))
            replace HT : Hid (Below W.heap.size W w29) := Lib.hid (HT.out.trans (hT.below (fun b h2 => by have qA := h2.1; have qB := h2.2; omega) HT.out.size))
            have hsw29 : w28.heap.size ≤ w29.heap.size := hT.size
            replace Hz : Hid (Owns w29 (.r [.i g0, .i g1, .i g2, .i g3, .s g4, .l (mkAll M5 (1 + cntAll L1 + cntAll L2 + cntAll L3 + cntAll L4)), .r [.i g6_0, .i g6_1], .i g7, .r [.i g8_0, .i g8_1, .i g8_2]]) [.int .i64 g0, .int .i64 g1, .int .i64 g2, .int .i64 g3, .string g4, .slice zA5 m5 zc5, .int .i64 g6_0, .int .i64 g6_1, .int .i64 g7, .int .i64 g8_0, .int .i64 g8_1, .int .i64 g8_2] (rng (w4.heap.size + 1) (w5.heap.size))) := Lib.hid hO
            clear hO hT
            have hka : (0 : Int) ≤ 1 + cntAll L1 + cntAll L2 + cntAll L3 + cntAll L4 + cntAll M5 := by omega
            have hkb : (decide ((1 + cntAll L1 + cntAll L2 + cntAll L3 + cntAll L4 + cntAll M5) < 0)) = false := by (simp; try omega)
            obtain ⟨zg0, zg1, zg2, zg3, zg4⟩ := Bg.out.c5
            obtain ⟨zw0, zw1, zw2, zw3, zw4⟩ := Bw.out.c5
            go_wp2_with fail
            refine (eqVat f0 L1 gA1 n1 gc1 L2 gA2 n2 gc2 L3 gA3 n3 gc3 N4 gA4 m4 gc4 wA1 wc1 wA2 wc2 wA3 wc3 wA4 wc4 _ (liesVat1 Hg.out) (liesVat1 Hw.out) ht1 hm1 (liesVat2 Hg.out) (liesVat2 Hw.out) ht2 hm2 (liesVat3 Hg.out) (liesVat3 Hw.out) ht3 hm3 (liesVat4 Hg.out) (liesVat4 Hw.out) htN4 hmN4).mono ?_
            rintro e w30 ⟨rfl, hb⟩
            clear zg0 zg1 zg2 zg3 zg4
            clear zw0 zw1 zw2 zw3 zw4
            replace Hw : Hid (Owns w30 (.r [.i f0, .l L1, .l L2, .l L3, .l N4]) [.int .i64 f0, .slice wA1 n1 wc1, .slice wA2 n2 wc2, .slice wA3 n3 wc3, .slice wA4 m4 wc4] (fun b => (w2.heap.size ≤ b ∧ b ≠ gw) ∧ b < w3.heap.size)) := Lib.hid (Hw.out.below hb)
            replace Hx : Hid (Owns w30 (.r [.i f0, .l (mkAll L1 (1)), .l (mkAll L2 (1 + cntAll L1)), .l (mkAll L3 (1 + cntAll L1 + cntAll L2)), .l (mkAll L4 (1 + cntAll L1 + cntAll L2 + cntAll L3))]) [.int .i64 f0, .slice xA1 n1 xc1, .slice xA2 n2 xc2, .slice xA3 n3 xc3, .slice xA4 n4 xc4] (rng (w3.heap.size) (w4.heap.size))) := Lib.hid (Hx.out.below hb)
            replace Hz : Hid (Owns w30 (.r [.i g0, .i g1, .i g2, .i g3, .s g4, .l (mkAll M5 (1 + cntAll L1 + cntAll L2 + cntAll L3 + cntAll L4)), .r [.i g6_0, .i g6_1], .i g7, .r [.i g8_0, .i g8_1, .i g8_2]]) [.int .i64 g0, .int .i64 g1, .int .i64 g2, .int .i64 g3, .string g4, .slice zA5 m5 zc5, .int .i64 g6_0, .int .i64 g6_1, .int .i64 g7, .int .i64 g8_0, .int .i64 g8_1, .int .i64 g8_2] (rng (w4.heap.size + 1) (w5.heap.size))) := Lib.hid (Hz.out.below hb)
            replace Hg : Hid (Owns w30 (.r [.i f0, .l L1, .l L2, .l L3, .l N4]) [.int .i64 f0, .slice gA1 n1 gc1, .slice gA2 n2 gc2, .slice gA3 n3 gc3, .slice gA4 m4 gc4] (rng (w5.heap.size + 1) (w6.heap.size))) := Lib.hid (Hg.out.below hb)
            replace Ba : Hid (Box (W.heap.size) [.int .i64 f0, .slice A1 n1 c1, .slice A2 n2 c2, .slice A3 n3 c3, .slice A4 n4 c4] w30) := Lib.hid (Ba.out.below hb)
            replace Bb : Hid (Box (W.heap.size + 1) [.int .i64 g0, .int .i64 g1, .int .i64 g2, .int .i64 g3, .string g4, .slice D5 m5 j5, .int .i64 g6_0, .int .i64 g6_1, .int .i64 g7, .int .i64 g8_0, .int .i64 g8_1, .int .i64 g8_2] w30) := Lib.hid (Bb.out.below hb)
            replace Bw : Hid (Box (gw) [.int .i64 f0, .slice wA1 n1 wc1, .slice wA2 n2 wc2, .slice wA3 n3 wc3, .slice wA4 m4 wc4] w30) := Lib.hid (Bw.out.below hb)
            replace Bx : Hid (Box (w4.heap.size) [.int .i64 f0, .slice xA1 n1 xc1, .slice xA2 n2 xc2, .slice xA3 n3 xc3, .slice xA4 n4 xc4] w30) := Lib.hid (Bx.out.below hb)
            replace Bz : Hid (Box (w5.heap.size) [.int .i64 g0, .int .i64 g1, .int .i64 g2, .int .i64 g3, .string g4, .slice zA5 m5 zc5, .int .i64 g6_0, .int .i64 g6_1, .int .i64 g7, .int .i64 g8_0, .int .i64 g8_1, .int .i64 g8_2] w30) := Lib.hid (Bz.out.below hb)
            replace Bg : Hid (Box (w6.heap.size) [.int .i64 f0, .slice gA1 n1 gc1, .slice gA2 n2 gc2, .slice gA3 n3 gc3, .slice gA4 m4 gc4] w30) := Lib.hid (Bg.out.below hb)
            replace HT : Hid (Below W.heap.size W w30) := Lib.hid (HT.out.trans (hb.mono HT.out.size))
            have hsw30 : w29.heap.size ≤ w30.heap.size := (by have h1 := hb.size; (try simp only [World.size_alloc, World.size_drew] at h1); exact h1)
            clear hb
            clear Hx
            clear Hz
            clear hka hkb hk1
            obtain ⟨zg0, zg1, zg2, zg3, zg4⟩ := Bg.out.c5
            go_wp2_with fail
            refine (markRVat f0 L1 gA1 n1 gc1 L2 gA2 n2 gc2 L3 gA3 n3 gc3 N4 gA4 m4 gc4 (1) (rng (w5.heap.size + 1) (w6.heap.size)) _ Hg.out ht1 hN1 ht2 hN2 ht3 hN3 htN4 hNN4 (by omega) (by omega) (fun b hb => by have hA := hb.1; have hB := hb.2; omega)).mono ?_
            rintro e w31 ⟨rfl, hO, hT⟩
            clear zg0 zg1 zg2 zg3 zg4
            replace Hw : Hid (Owns w31 (.r [.i f0, .l L1, .l L2, .l L3, .l N4]) [.int .i64 f0, .slice wA1 n1 wc1, .slice wA2 n2 wc2, .slice wA3 n3 wc3, .slice wA4 m4 wc4] (fun b => (w2.heap.size ≤ b ∧ b ≠ gw) ∧ b < w3.heap.size)) := Lib.hid (Hw.out.touch hT (fun b h1 h2 => by have pA := h1.1.1; have pB := h1.2; have pC := h1.1.2; have qA := h2.1; have qB := h2.2; omega))
            replace Ba : Hid (Box (W.heap.size) [.int .i64 f0, .slice A1 n1 c1, .slice A2 n2 c2, .slice A3 n3 c3, .slice A4 n4 c4] w31) := Lib.hid (Ba.out.touch hT (fun h2 => by have qA := h2.1; have qB := h2.2; omega))
            replace Bb : Hid (Box (W.heap.size + 1) [.int .i64 g0, .int .i64 g1, .int .i64 g2, .int .i64 g3, .string g4, .slice D5 m5 j5, .int .i64 g6_0, .int .i64 g6_1, .int .i64 g7, .int .i64 g8_0, .int .i64 g8_1, .int .i64 g8_2] w31) := Lib.hid (Bb.out.touch hT (fun h2 => by have qA := h2.1; have qB := h2.2; omega))
            replace Bw : Hid (Box (gw) [.int .i64 f0, .slice wA1 n1 wc1, .slice wA2 n2 wc2, .slice wA3 n3 wc3, .slice wA4 m4 wc4] w31) := Lib.hid (Bw.out.touch hT (fun h2 => by have qA := h2.1; have qB := h2.2; omega))
            replace Bx : Hid (Box (w4.heap.size) [.int .i64 f0, .slice xA1 n1 xc1, .slice xA2 n2 xc2, .slice xA3 n3 xc3, .slice xA4 n4 xc4] w31) := Lib.hid (Bx.out.touch hT (fun h2 => by have qA := h2.1; have qB := h2.2; omega))
            replace Bz : Hid (Box (w5.heap.size) [.int .i64 g0, .int .i64 g1, .int .i64 g2, .int .i64 g3, .string g4, .slice zA5 m5 zc5, .int .i64 g6_0, .int .i64 g6_1, .int .i64 g7, .int .i64 g8_0, .int .i64 g8_1, .int .i64 g8_2] w31) := Lib.hid (Bz.out.touch hT (fun h2 => by have qA := h2.1; have qB := h2.2; omega))
            replace Bg : Hid (Box (w6.heap.size) [.int .i64 f0, .slice gA1 n1 gc1, .slice gA2 n2 gc2, .slice gA3 n3 gc3, .slice gA4 m4 gc4] w31) := Lib.hid (Bg.out.touch hT (fun h2 => by have qA := h2.1; have qB := h2.2; omega))
            replace HT : Hid (Below W.heap.size W w31) := Lib.hid (HT.out.trans (hT.below (fun b h2 => by have qA := h2.1; have qB := h2.2; omega) HT.out.size))
            have hsw31 : w30.heap.size ≤ w31.heap.size := hT.size
            replace Hg : Hid (Owns w31 (.r [.i f0, .l (mkAll L1 (1)), .l (mkAll L2 (1 + cntAll L1)), .l (mkAll L3 (1 + cntAll L1 + cntAll L2)), .l (mkAll N4 (1 + cntAll L1 + cntAll L2 + cntAll L3))]) [.int .i64 f0, .slice gA1 n1 gc1, .slice gA2 n2 gc2, .slice gA3 n3 gc3, .slice gA4 m4 gc4] (rng (w5.heap.size + 1) (w6.heap.size))) := Lib.hid hO
            clear hO hT
            have hka : (0 : Int) ≤ 1 + cntAll L1 + cntAll L2 + cntAll L3 + cntAll N4 := by omega
            have hkb : (decide ((1 + cntAll L1 + cntAll L2 + cntAll L3 + cntAll N4) < 0)) = false := by (simp; try omega)
            obtain ⟨zg0, zg1, zg2, zg3, zg4⟩ := Bg.out.c5
            go_wp2_with fail
            refine (heldRVat f0 L1 gA1 n1 gc1 L2 gA2 n2 gc2 L3 gA3 n3 gc3 N4 gA4 m4 gc4 (1) _ (liesVat1 Hg.out) (liesVat2 Hg.out) (liesVat3 Hg.out) (liesVat4 Hg.out) ht1 hN1 ht2 hN2 ht3 hN3 htN4 hNN4 (by omega) (by omega)).mono ?_
            rintro e w32 ⟨rfl, hb⟩
            clear zg0 zg1 zg2 zg3 zg4
            replace Hw : Hid (Owns w32 (.r [.i f0, .l L1, .l L2, .l L3, .l N4]) [.int .i64 f0, .slice wA1 n1 wc1, .slice wA2 n2 wc2, .slice wA3 n3 wc3, .slice wA4 m4 wc4] (fun b => (w2.heap.size ≤ b ∧ b ≠ gw) ∧ b < w3.heap.size)) := Lib.hid (Hw.out.below hb)
            replace Hg : Hid (Owns w32 (.r [.i f0, .l (mkAll L1 (1)), .l (mkAll L2 (1 + cntAll L1)), .l (mkAll L3 (1 + cntAll L1 + cntAll L2)), .l (mkAll N4 (1 + cntAll L1 + cntAll L2 + cntAll L3))]) [.int .i64 f0, .slice gA1 n1 gc1, .slice gA2 n2 gc2, .slice gA3 n3 gc3, .slice gA4 m4 gc4] (rng (w5.heap.size + 1) (w6.heap.size))) := Lib.hid (Hg.out.below hb)
            replace Ba : Hid (Box (W.heap.size) [.int .i64 f0, .slice A1 n1 c1, .slice A2 n2 c2, .slice A3 n3 c3, .slice A4 n4 c4] w32) := Lib.hid (Ba.out.below hb)
            replace Bb : Hid (Box (W.heap.size + 1) [.int .i64 g0, .int .i64 g1, .int .i64 g2, .int .i64 g3, .string g4, .slice D5 m5 j5, .int .i64 g6_0, .int .i64 g6_1, .int .i64 g7, .int .i64 g8_0, .int .i64 g8_1, .int .i64 g8_2] w32) := Lib.hid (Bb.out.below hb)
            replace Bw : Hid (Box (gw) [.int .i64 f0, .slice wA1 n1 wc1, .slice wA2 n2 wc2, .slice wA3 n3 wc3, .slice wA4 m4 wc4] w32) := Lib.hid (Bw.out.below hb)
            replace Bx : Hid (Box (w4.heap.size) [.int .i64 f0, .slice xA1 n1 xc1, .slice xA2 n2 xc2, .slice xA3 n3 xc3, .slice xA4 n4 xc4] w32) := Lib.hid (Bx.out.below hb)
            replace Bz : Hid (Box (w5.heap.size) [.int .i64 g0, .int .i64 g1, .int .i64 g2, .int .i64 g3, .string g4, .slice zA5 m5 zc5, .int .i64 g6_0, .int .i64 g6_1, .int .i64 g7, .int .i64 g8_0, .int .i64 g8_1, .int .i64 g8_2] w32) := Lib.hid (Bz.out.below hb)
            replace Bg : Hid (Box (w6.heap.size) [.int .i64 f0, .slice gA1 n1 gc1, .slice gA2 n2 gc2, .slice gA3 n3 gc3, .slice gA4 m4 gc4] w32) := Lib.hid (Bg.out.below hb)
            replace HT : Hid (Below W.heap.size W w32) := Lib.hid (HT.out.trans (hb.mono HT.out.size))
            have hsw32 : w31.heap.size ≤ w32.heap.size := (by have h1 := hb.size; (try simp only [World.size_alloc, World.size_drew] at h1); exact h1)
            clear hb
            go_upto_region 31 with (fail)
            have HS : Hid (∀ w' : World, Below w32.heap.size w32 w' → ((w'.cell? ⟨W.heap.size, 0, none⟩ = some (.int .i64 f0) ∧ w'.cell? ⟨W.heap.size, 1, none⟩ = some (.slice A1 n1 c1) ∧ w'.cell? ⟨W.heap.size, 2, none⟩ = some (.slice A2 n2 c2) ∧ w'.cell? ⟨W.heap.size, 3, none⟩ = some (.slice A3 n3 c3) ∧ w'.cell? ⟨W.heap.size, 4, none⟩ = some (.slice A4 n4 c4)) ∧ (w'.cell? ⟨W.heap.size + 1, 0, none⟩ = some (.int .i64 g0) ∧ w'.cell? ⟨W.heap.size + 1, 1, none⟩ = some (.int .i64 g1) ∧ w'.cell? ⟨W.heap.size + 1, 2, none⟩ = some (.int .i64 g2) ∧ w'.cell? ⟨W.heap.size + 1, 3, none⟩ = some (.int .i64 g3) ∧ w'.cell? ⟨W.heap.size + 1, 4, none⟩ = some (.string g4) ∧ w'.cell? ⟨W.heap.size + 1, 5, none⟩ = some (.slice D5 m5 j5) ∧ w'.cell? ⟨W.heap.size + 1, 6, none⟩ = some (.int .i64 g6_0) ∧ w'.cell? ⟨W.heap.size + 1, 7, none⟩ = some (.int .i64 g6_1) ∧ w'.cell? ⟨W.heap.size + 1, 8, none⟩ = some (.int .i64 g7) ∧ w'.cell? ⟨W.heap.size + 1, 9, none⟩ = some (.int .i64 g8_0) ∧ w'.cell? ⟨W.heap.size + 1, 10, none⟩ = some (.int .i64 g8_1) ∧ w'.cell? ⟨W.heap.size + 1, 11, none⟩ = some (.int .i64 g8_2)))) := Lib.hid (fun w' hb => ⟨(Ba.out.below hb).c5, (Bb.out.below hb).c12⟩)
            go_cut [15] from 79 to 84 (fun s15 wq => ∃ (g : Nat) (hA1 : Option Addr) (hc1 : Nat) (hA2 : Option Addr) (hc2 : Nat) (hA3 : Option Addr) (hc3 : Nat) (hA4 : Option Addr) (hc4 : Nat), s15 = .pointer (some ⟨g, 0, none⟩) ∧ Zx g [.int .i64 f0, .slice hA1 n1 hc1, .slice hA2 n2 hc2, .slice hA3 n3 hc3, .slice hA4 m4 hc4] wq ∧ VatX (fun b => w32.heap.size ≤ b ∧ b ≠ g) wq L1 hA1 n1 hc1 L2 hA2 n2 hc2 L3 hA3 n3 hc3 N4 hA4 m4 hc4 ∧ Below w32.heap.size w32 wq)
            case first =>
              have Ja1 := Lib.hid (Za1.out.below HT.out)
              have Ja2 := Lib.hid (Za2.out.below HT.out)
              have Ja3 := Lib.hid (Za3.out.below HT.out)
              have Ja4 := Lib.hid (Za4.out.below HT.out)
              have Jb5 := Lib.hid (Zb5.out.below HT.out)
              have HB : Hid (Below w32.heap.size w32 w32.drew) := Lib.hid (Below.refl _ _).drew
              refine wp_region_held_drew (S := (fun w' => (w'.cell? ⟨W.heap.size, 0, none⟩ = some (.int .i64 f0) ∧ w'.cell? ⟨W.heap.size, 1, none⟩ = some (.slice A1 n1 c1) ∧ w'.cell? ⟨W.heap.size, 2, none⟩ = some (.slice A2 n2 c2) ∧ w'.cell? ⟨W.heap.size, 3, none⟩ = some (.slice A3 n3 c3) ∧ w'.cell? ⟨W.heap.size, 4, none⟩ = some (.slice A4 n4 c4)) ∧ (w'.cell? ⟨W.heap.size + 1, 0, none⟩ = some (.int .i64 g0) ∧ w'.cell? ⟨W.heap.size + 1, 1, none⟩ = some (.int .i64 g1) ∧ w'.cell? ⟨W.heap.size + 1, 2, none⟩ = some (.int .i64 g2) ∧ w'.cell? ⟨W.heap.size + 1, 3, none⟩ = some (.int .i64 g3) ∧ w'.cell? ⟨W.heap.size + 1, 4, none⟩ = some (.string g4) ∧ w'.cell? ⟨W.heap.size + 1, 5, none⟩ = some (.slice D5 m5 j5) ∧ w'.cell? ⟨W.heap.size + 1, 6, none⟩ = some (.int .i64 g6_0) ∧ w'.cell? ⟨W.heap.size + 1, 7, none⟩ = some (.int .i64 g6_1) ∧ w'.cell? ⟨W.heap.size + 1, 8, none⟩ = some (.int .i64 g7) ∧ w'.cell? ⟨W.heap.size + 1, 9, none⟩ = some (.int .i64 g8_0) ∧ w'.cell? ⟨W.heap.size + 1, 10, none⟩ = some (.int .i64 g8_1) ∧ w'.cell? ⟨W.heap.size + 1, 11, none⟩ = some (.int .i64 g8_2)))) (by kernel_rfl) ?_ (fun hH0 => ?_)
              · exact HS.out _ HB.out
              refine wpAnyH_take (i := 0) (v := ?_) rfl (by kernel_rfl) (by kernel_rfl) (by kernel_rfl) (fun _ _ _ h => h) (Or.inl ⟨by rfl, ?_⟩) hH0 ?_
              rotate_left
              · intro w hSw; (try dsimp only at hSw); go_simp; (try with_reducible rfl)
              simp only [Act.put, List.setIfInBounds_toArray, List.set_cons_zero, List.set_cons_succ]
              refine wpAnyH_take (i := 2) (v := ?_) rfl (by kernel_rfl) (by kernel_rfl) (by kernel_rfl) (fun _ _ _ h => h) (Or.inl ⟨by rfl, ?_⟩) hH0 ?_
              rotate_left
              · intro w hSw; (try dsimp only at hSw); go_simp; (try with_reducible rfl)
              simp only [Act.put, List.setIfInBounds_toArray, List.set_cons_zero, List.set_cons_succ]
              refine wpAnyH_take (i := 3) (v := ?_) rfl (by kernel_rfl) (by kernel_rfl) (by kernel_rfl) (fun _ _ _ h => h) (Or.inl ⟨by rfl, ?_⟩) hH0 ?_
              rotate_left
              · intro w hSw; (try dsimp only at hSw); go_simp; (try with_reducible rfl)
              simp only [Act.put, List.setIfInBounds_toArray, List.set_cons_zero, List.set_cons_succ]
              refine wpAnyH_ready (rs := [1, 6]) (by kernel_rfl) (by simp) ?_
              refine AllReadyH.cons rfl (fun K hK => ?_) ?_
              · (go_simp; go_at_call 7; (with_reducible refine (toVat f0 L1 A1 n1 c1 L2 A2 n2 c2 L3 A3 n3 c3 L4 A4 n4 c4 _ (Ja1.out.below HB.out) ht1 hqa1 (Ja2.out.below HB.out) ht2 hqa2 (Ja3.out.below HB.out) ht3 hqa3 (Ja4.out.below HB.out) ht4 hqa4).mono ?_); rintro e w1q ⟨yaA1, yac1, yaA2, yac2, yaA3, yac3, yaA4, yac4, a1, a2, a3, rfl, hO1, hO2, hO3, hO4, -, -, -, -, hb⟩; (have hz1q := hb.size); (try simp only [World.size_alloc, World.size_drew] at hz1q); (have hy1q := HB.out.size); (try simp only [World.size_alloc, World.size_drew] at hy1q); (have Ya1 := Lib.hid hO1.lies); (have Ya2 := Lib.hid hO2.lies); (have Ya3 := Lib.hid hO3.lies); (have Ya4 := Lib.hid hO4.lies); (replace HB := Lib.hid (HB.out.trans (hb.mono HB.out.size))); clear hb hO1 hO2 hO3 hO4; (try (go_wp2_with fail)))
                refine hK.out _ _ ?_ (fun hH1 => ?_)
                · exact HS.out _ HB.out
                clear hK K hH0
                (try simp only [Act.put, List.setIfInBounds_toArray, List.set_cons_zero, List.set_cons_succ])
                refine wpAnyH_ready (rs := [4, 6]) (by kernel_rfl) (by simp) ?_
                refine AllReadyH.cons rfl (fun K hK => ?_) ?_
                · (go_simp; go_at_call 8; (with_reducible refine (toMessage g0 g1 g2 g3 g4 M5 D5 m5 j5 g6_0 g6_1 g7 g8_0 g8_1 g8_2 _ (Jb5.out.below HB.out) hf5 hqb5).mono ?_); rintro e w2q ⟨ybA5, ybc5, rfl, hO5, hb⟩; (have hz2q := hb.size); (try simp only [World.size_alloc, World.size_drew] at hz2q); (have hy2q := HB.out.size); (try simp only [World.size_alloc, World.size_drew] at hy2q); (replace Ya1 := Lib.hid (Ya1.out.below hb)); (replace Ya2 := Lib.hid (Ya2.out.below hb)); (replace Ya3 := Lib.hid (Ya3.out.below hb)); (replace Ya4 := Lib.hid (Ya4.out.below hb)); (have Yb5 := Lib.hid hO5.lies); (replace HB := Lib.hid (HB.out.trans (hb.mono HB.out.size))); clear hb hO5; (try (go_wp2_with fail)))
                  refine hK.out _ _ ?_ (fun hH2 => ?_)
                  · exact HS.out _ HB.out
                  clear hK K hH1
                  (try simp only [Act.put, List.setIfInBounds_toArray, List.set_cons_zero, List.set_cons_succ])
                  refine wpAnyH_ready (rs := [5, 6]) (by kernel_rfl) (by simp) ?_
                  refine AllReadyH.cons rfl (fun K hK => ?_) ?_
                  · (go_simp; go_at_call 9; (with_reducible refine (CIM.out yaA1 yac1 yaA2 yac2 yaA3 yac3 yaA4 yac4 ybA5 ybc5 _ Ya1.out Ya2.out Ya3.out Ya4.out Yb5.out).mono ?_); rintro e w3q ⟨hA1, hc1, hA2, hc2, hA3, hc3, hA4, hc4, rfl, hV, hb⟩; (have hz3q := hb.size); (try simp only [World.size_alloc, World.size_drew] at hz3q); (have hy3q := HB.out.size); (try simp only [World.size_alloc, World.size_drew] at hy3q); (replace Ya1 := Lib.hid (Ya1.out.below hb)); (replace Ya2 := Lib.hid (Ya2.out.below hb)); (replace Ya3 := Lib.hid (Ya3.out.below hb)); (replace Ya4 := Lib.hid (Ya4.out.below hb)); (replace Yb5 := Lib.hid (Yb5.out.below hb)); (have HV9 := Lib.hid hV); (replace HB := Lib.hid (HB.out.trans (hb.mono HB.out.size))); clear hb hV; (try (go_wp2_with fail)))
                    refine hK.out _ _ ?_ (fun hH3 => ?_)
                    · exact HS.out _ HB.out
                    clear hK K hH2
                    (try simp only [Act.put, List.setIfInBounds_toArray, List.set_cons_zero, List.set_cons_succ])
                    refine wpAnyH_ready (rs := [6]) (by kernel_rfl) (by simp) ?_
                    refine AllReadyH.cons rfl (fun K hK => ?_) ?_
                    · (go_simp; (have Z : Hid (Zx (w3q.heap.size) [.int .i64 0, .slice none 0 0, .slice none 0 0, .slice none 0 0, .slice none 0 0] (w3q.alloc (.cells #[.int .i64 0, .slice none 0 0, .slice none 0 0, .slice none 0 0, .slice none 0 0] 42))) := Lib.hid (by have h1 := Zx.new w3q #[.int .i64 0, .slice none 0 0, .slice none 0 0, .slice none 0 0, .slice none 0 0] 42; (try simp only [World.size_alloc, World.size_drew] at h1); exact h1)); (replace Ya1 := Lib.hid (Ya1.out.below ((Below.refl _ _).alloc (Nat.le_refl _) (.cells #[.int .i64 0, .slice none 0 0, .slice none 0 0, .slice none 0 0, .slice none 0 0] 42)))); (replace Ya2 := Lib.hid (Ya2.out.below ((Below.refl _ _).alloc (Nat.le_refl _) (.cells #[.int .i64 0, .slice none 0 0, .slice none 0 0, .slice none 0 0, .slice none 0 0] 42)))); (replace Ya3 := Lib.hid (Ya3.out.below ((Below.refl _ _).alloc (Nat.le_refl _) (.cells #[.int .i64 0, .slice none 0 0, .slice none 0 0, .slice none 0 0, .slice none 0 0] 42)))); (replace Ya4 := Lib.hid (Ya4.out.below ((Below.refl _ _).alloc (Nat.le_refl _) (.cells #[.int .i64 0, .slice none 0 0, .slice none 0 0, .slice none 0 0, .slice none 0 0] 42)))); (replace Yb5 := Lib.hid (Yb5.out.below ((Below.refl _ _).alloc (Nat.le_refl _) (.cells #[.int .i64 0, .slice none 0 0, .slice none 0 0, .slice none 0 0, .slice none 0 0] 42)))); (have HV9p := HV9); (replace HV9 := Lib.hid (HV9.out.below ((Below.refl _ _).alloc (Nat.le_refl _) (.cells #[.int .i64 0, .slice none 0 0, .slice none 0 0, .slice none 0 0, .slice none 0 0] 42)))); (have HBp := HB); (have hg0 : w32.heap.size ≤ w3q.heap.size := (by have h1 := HB.out.size; (try simp only [World.size_alloc, World.size_drew] at h1); (try simp only [World.size_alloc, World.size_drew]); first | exact h1 | omega)); (replace HB := Lib.hid (HB.out.alloc HB.out.size (.cells #[.int .i64 0, .slice none 0 0, .slice none 0 0, .slice none 0 0, .slice none 0 0] 42))); (obtain ⟨zq0, zq1, zq2, zq3, zq4, fq⟩ := Z.out.d5))
                      refine hK.out _ _ ?_ (fun hH4 => ?_)
                      · exact HS.out _ HB.out
                      clear hK K hH3
                      (try simp only [Act.put, List.setIfInBounds_toArray, List.set_cons_zero, List.set_cons_succ])
                      refine wpAnyH_ready (rs := [7]) (by kernel_rfl) (by simp) ?_
                      refine AllReadyH.cons rfl (fun K hK => ?_) ?_
                      · go_simp
                        refine hK.out _ _ ?_ (fun hH5 => ?_)
                        · exact HS.out _ (HBp.out.alloc HBp.out.size _)
                        clear hK K hH4
                        (try simp only [Act.put, List.setIfInBounds_toArray, List.set_cons_zero, List.set_cons_succ])
                        refine wpAnyH_done (by kernel_rfl) ?_ _
                        go_wp2_with fail
                        go_meet
                        exact ⟨_, _, _, _, _, _, _, _, _, rfl, Zx.new _ #[.int .i64 f0, .slice hA1 n1 hc1, .slice hA2 n2 hc2, .slice hA3 n3 hc3, .slice hA4 m4 hc4] _, (HV9p.out.below ((Below.refl _ _).alloc (Nat.le_refl _) _)).mono (fun b hb => ⟨by have h1 := hb.1; (try simp only [World.size_alloc, World.size_drew] at h1); omega, by have h1 := hb.2; omega⟩), HBp.out.alloc HBp.out.size _⟩
                      exact AllReadyH.nil
                    exact AllReadyH.nil
                  refine AllReadyH.cons rfl (fun K hK => ?_) ?_
                  · (go_simp; (have Z : Hid (Zx (w2q.heap.size) [.int .i64 0, .slice none 0 0, .slice none 0 0, .slice none 0 0, .slice none 0 0] (w2q.alloc (.cells #[.int .i64 0, .slice none 0 0, .slice none 0 0, .slice none 0 0, .slice none 0 0] 42))) := Lib.hid (by have h1 := Zx.new w2q #[.int .i64 0, .slice none 0 0, .slice none 0 0, .slice none 0 0, .slice none 0 0] 42; (try simp only [World.size_alloc, World.size_drew] at h1); exact h1)); (replace Ya1 := Lib.hid (Ya1.out.below ((Below.refl _ _).alloc (Nat.le_refl _) (.cells #[.int .i64 0, .slice none 0 0, .slice none 0 0, .slice none 0 0, .slice none 0 0] 42)))); (replace Ya2 := Lib.hid (Ya2.out.below ((Below.refl _ _).alloc (Nat.le_refl _) (.cells #[.int .i64 0, .slice none 0 0, .slice none 0 0, .slice none 0 0, .slice none 0 0] 42)))); (replace Ya3 := Lib.hid (Ya3.out.below ((Below.refl _ _).alloc (Nat.le_refl _) (.cells #[.int .i64 0, .slice none 0 0, .slice none 0 0, .slice none 0 0, .slice none 0 0] 42)))); (replace Ya4 := Lib.hid (Ya4.out.below ((Below.refl _ _).alloc (Nat.le_refl _) (.cells #[.int .i64 0, .slice none 0 0, .slice none 0 0, .slice none 0 0, .slice none 0 0] 42)))); (replace Yb5 := Lib.hid (Yb5.out.below ((Below.refl _ _).alloc (Nat.le_refl _) (.cells #[.int .i64 0, .slice none 0 0, .slice none 0 0, .slice none 0 0, .slice none 0 0] 42)))); (have HBp := HB); (have hg0 : w32.heap.size ≤ w2q.heap.size := (by have h1 := HB.out.size; (try simp only [World.size_alloc, World.size_drew] at h1); (try simp only [World.size_alloc, World.size_drew]); first | exact h1 | omega)); (replace HB := Lib.hid (HB.out.alloc HB.out.size (.cells #[.int .i64 0, .slice none 0 0, .slice none 0 0, .slice none 0 0, .slice none 0 0] 42))); (obtain ⟨zq0, zq1, zq2, zq3, zq4, fq⟩ := Z.out.d5))
                    refine hK.out _ _ ?_ (fun hH6 => ?_)
                    · exact HS.out _ HB.out
                    clear hK K hH2
                    (try simp only [Act.put, List.setIfInBounds_toArray, List.set_cons_zero, List.set_cons_succ])
                    refine wpAnyH_ready (rs := [5]) (by kernel_rfl) (by simp) ?_
                    refine AllReadyH.cons rfl (fun K hK => ?_) ?_
                    · (go_simp; go_at_call 9; (with_reducible refine (CIM.out yaA1 yac1 yaA2 yac2 yaA3 yac3 yaA4 yac4 ybA5 ybc5 _ Ya1.out Ya2.out Ya3.out Ya4.out Yb5.out).mono ?_); rintro e w3q ⟨hA1, hc1, hA2, hc2, hA3, hc3, hA4, hc4, rfl, hV, hb⟩; (have hz3q := hb.size); (try simp only [World.size_alloc, World.size_drew] at hz3q); (have hy3q := HB.out.size); (try simp only [World.size_alloc, World.size_drew] at hy3q); (replace Ya1 := Lib.hid (Ya1.out.below hb)); (replace Ya2 := Lib.hid (Ya2.out.below hb)); (replace Ya3 := Lib.hid (Ya3.out.below hb)); (replace Ya4 := Lib.hid (Ya4.out.below hb)); (replace Yb5 := Lib.hid (Yb5.out.below hb)); (have HV9 := Lib.hid hV); (have hgl := Z.out.lt); (try simp only [World.size_alloc, World.size_drew] at hgl); (replace HB := Lib.hid (HB.out.trans (hb.mono HB.out.size))); (replace Z := Lib.hid (Z.out.below hb)); (obtain ⟨zq0, zq1, zq2, zq3, zq4, fq⟩ := Z.out.d5); clear hb hV; (try (go_wp2_with fail)))
                      refine hK.out _ _ ?_ (fun hH7 => ?_)
                      · exact HS.out _ HB.out
                      clear hK K hH6
                      (try simp only [Act.put, List.setIfInBounds_toArray, List.set_cons_zero, List.set_cons_succ])
                      refine wpAnyH_ready (rs := [7]) (by kernel_rfl) (by simp) ?_
                      refine AllReadyH.cons rfl (fun K hK => ?_) ?_
                      · go_simp
                        refine hK.out _ _ ?_ (fun hH8 => ?_)
                        · exact HS.out _ (((((HB.out.setCell (p := ⟨_, 0, none⟩) hg0 _).setCell (p := ⟨_, 1, none⟩) hg0 _).setCell (p := ⟨_, 2, none⟩) hg0 _).setCell (p := ⟨_, 3, none⟩) hg0 _).setCell (p := ⟨_, 4, none⟩) hg0 _)
                        clear hK K hH7
                        (try simp only [Act.put, List.setIfInBounds_toArray, List.set_cons_zero, List.set_cons_succ])
                        refine wpAnyH_done (by kernel_rfl) ?_ _
                        go_wp2_with fail
                        go_meet
                        exact ⟨_, _, _, _, _, _, _, _, _, rfl, (((((Z.out.put 0 _).put 1 _).put 2 _).put 3 _).put 4 _), (HV9.out.touch ((((((Touch.refl (fun b => b = _) _).setCell (p := ⟨_, 0, none⟩) rfl _).setCell (p := ⟨_, 1, none⟩) rfl _).setCell (p := ⟨_, 2, none⟩) rfl _).setCell (p := ⟨_, 3, none⟩) rfl _).setCell (p := ⟨_, 4, none⟩) rfl _) (fun b hb e => by have h1 := hb.1; (try dsimp only at e); (try simp only [World.size_alloc, World.size_drew] at h1); omega)).mono (fun b hb => ⟨by have h1 := hb.1; (try simp only [World.size_alloc, World.size_drew] at h1); omega, by have h1 := hb.1; (try simp only [World.size_alloc, World.size_drew] at h1); omega⟩), (((((HB.out.setCell (p := ⟨_, 0, none⟩) hg0 _).setCell (p := ⟨_, 1, none⟩) hg0 _).setCell (p := ⟨_, 2, none⟩) hg0 _).setCell (p := ⟨_, 3, none⟩) hg0 _).setCell (p := ⟨_, 4, none⟩) hg0 _)⟩
                      exact AllReadyH.nil
                    exact AllReadyH.nil
                  exact AllReadyH.nil
                refine AllReadyH.cons rfl (fun K hK => ?_) ?_
                · (go_simp; (have Z : Hid (Zx (w1q.heap.size) [.int .i64 0, .slice none 0 0, .slice none 0 0, .slice none 0 0, .slice none 0 0] (w1q.alloc (.cells #[.int .i64 0, .slice none 0 0, .slice none 0 0, .slice none 0 0, .slice none 0 0] 42))) := Lib.hid (by have h1 := Zx.new w1q #[.int .i64 0, .slice none 0 0, .slice none 0 0, .slice none 0 0, .slice none 0 0] 42; (try simp only [World.size_alloc, World.size_drew] at h1); exact h1)); (replace Ya1 := Lib.hid (Ya1.out.below ((Below.refl _ _).alloc (Nat.le_refl _) (.cells #[.int .i64 0, .slice none 0 0, .slice none 0 0, .slice none 0 0, .slice none 0 0] 42)))); (replace Ya2 := Lib.hid (Ya2.out.below ((Below.refl _ _).alloc (Nat.le_refl _) (.cells #[.int .i64 0, .slice none 0 0, .slice none 0 0, .slice none 0 0, .slice none 0 0] 42)))); (replace Ya3 := Lib.hid (Ya3.out.below ((Below.refl _ _).alloc (Nat.le_refl _) (.cells #[.int .i64 0, .slice none 0 0, .slice none 0 0, .slice none 0 0, .slice none 0 0] 42)))); (replace Ya4 := Lib.hid (Ya4.out.below ((Below.refl _ _).alloc (Nat.le_refl _) (.cells #[.int .i64 0, .slice none 0 0, .slice none 0 0, .slice none 0 0, .slice none 0 0] 42)))); (have HBp := HB); (have hg0 : w32.heap.size ≤ w1q.heap.size := (by have h1 := HB.out.size; (try simp only [World.size_alloc, World.size_drew] at h1); (try simp only [World.size_alloc, World.size_drew]); first | exact h1 | omega)); (replace HB := Lib.hid (HB.out.alloc HB.out.size (.cells #[.int .i64 0, .slice none 0 0, .slice none 0 0, .slice none 0 0, .slice none 0 0] 42))); (obtain ⟨zq0, zq1, zq2, zq3, zq4, fq⟩ := Z.out.d5))
                  refine hK.out _ _ ?_ (fun hH9 => ?_)
                  · exact HS.out _ HB.out
                  clear hK K hH1
                  (try simp only [Act.put, List.setIfInBounds_toArray, List.set_cons_zero, List.set_cons_succ])
                  refine wpAnyH_ready (rs := [4]) (by kernel_rfl) (by simp) ?_
                  refine AllReadyH.cons rfl (fun K hK => ?_) ?_
                  · (go_simp; go_at_call 8; (with_reducible refine (toMessage g0 g1 g2 g3 g4 M5 D5 m5 j5 g6_0 g6_1 g7 g8_0 g8_1 g8_2 _ (Jb5.out.below HB.out) hf5 hqb5).mono ?_); rintro e w2q ⟨ybA5, ybc5, rfl, hO5, hb⟩; (have hz2q := hb.size); (try simp only [World.size_alloc, World.size_drew] at hz2q); (have hy2q := HB.out.size); (try simp only [World.size_alloc, World.size_drew] at hy2q); (replace Ya1 := Lib.hid (Ya1.out.below hb)); (replace Ya2 := Lib.hid (Ya2.out.below hb)); (replace Ya3 := Lib.hid (Ya3.out.below hb)); (replace Ya4 := Lib.hid (Ya4.out.below hb)); (have Yb5 := Lib.hid hO5.lies); (replace HB := Lib.hid (HB.out.trans (hb.mono HB.out.size))); (replace Z := Lib.hid (Z.out.below hb)); (obtain ⟨zq0, zq1, zq2, zq3, zq4, fq⟩ := Z.out.d5); clear hb hO5; (try (go_wp2_with fail)))
                    refine hK.out _ _ ?_ (fun hH10 => ?_)
                    · exact HS.out _ HB.out
                    clear hK K hH9
                    (try simp only [Act.put, List.setIfInBounds_toArray, List.set_cons_zero, List.set_cons_succ])
                    refine wpAnyH_ready (rs := [5]) (by kernel_rfl) (by simp) ?_
                    refine AllReadyH.cons rfl (fun K hK => ?_) ?_
                    · (go_simp; go_at_call 9; (with_reducible refine (CIM.out yaA1 yac1 yaA2 yac2 yaA3 yac3 yaA4 yac4 ybA5 ybc5 _ Ya1.out Ya2.out Ya3.out Ya4.out Yb5.out).mono ?_); rintro e w3q ⟨hA1, hc1, hA2, hc2, hA3, hc3, hA4, hc4, rfl, hV, hb⟩; (have hz3q := hb.size); (try simp only [World.size_alloc, World.size_drew] at hz3q); (have hy3q := HB.out.size); (try simp only [World.size_alloc, World.size_drew] at hy3q); (replace Ya1 := Lib.hid (Ya1.out.below hb)); (replace Ya2 := Lib.hid (Ya2.out.below hb)); (replace Ya3 := Lib.hid (Ya3.out.below hb)); (replace Ya4 := Lib.hid (Ya4.out.below hb)); (replace Yb5 := Lib.hid (Yb5.out.below hb)); (have HV9 := Lib.hid hV); (have hgl := Z.out.lt); (try simp only [World.size_alloc, World.size_drew] at hgl); (replace HB := Lib.hid (HB.out.trans (hb.mono HB.out.size))); (replace Z := Lib.hid (Z.out.below hb)); (obtain ⟨zq0, zq1, zq2, zq3, zq4, fq⟩ := Z.out.d5); clear hb hV; (try (go_wp2_with fail)))
                      refine hK.out _ _ ?_ (fun hH11 => ?_)
                      · exact HS.out _ HB.out
                      clear hK K hH10
                      (try simp only [Act.put, List.setIfInBounds_toArray, List.set_cons_zero, List.set_cons_succ])
                      refine wpAnyH_ready (rs := [7]) (by kernel_rfl) (by simp) ?_
                      refine AllReadyH.cons rfl (fun K hK => ?_) ?_
                      · go_simp
                        refine hK.out _ _ ?_ (fun hH12 => ?_)
                        · exact HS.out _ (((((HB.out.setCell (p := ⟨_, 0, none⟩) hg0 _).setCell (p := ⟨_, 1, none⟩) hg0 _).setCell (p := ⟨_, 2, none⟩) hg0 _).setCell (p := ⟨_, 3, none⟩) hg0 _).setCell (p := ⟨_, 4, none⟩) hg0 _)
                        clear hK K hH11
                        (try simp only [Act.put, List.setIfInBounds_toArray, List.set_cons_zero, List.set_cons_succ])
                        refine wpAnyH_done (by kernel_rfl) ?_ _
                        go_wp2_with fail
                        go_meet
                        exact ⟨_, _, _, _, _, _, _, _, _, rfl, (((((Z.out.put 0 _).put 1 _).put 2 _).put 3 _).put 4 _), (HV9.out.touch ((((((Touch.refl (fun b => b = _) _).setCell (p := ⟨_, 0, none⟩) rfl _).setCell (p := ⟨_, 1, none⟩) rfl _).setCell (p := ⟨_, 2, none⟩) rfl _).setCell (p := ⟨_, 3, none⟩) rfl _).setCell (p := ⟨_, 4, none⟩) rfl _) (fun b hb e => by have h1 := hb.1; (try dsimp only at e); (try simp only [World.size_alloc, World.size_drew] at h1); omega)).mono (fun b hb => ⟨by have h1 := hb.1; (try simp only [World.size_alloc, World.size_drew] at h1); omega, by have h1 := hb.1; (try simp only [World.size_alloc, World.size_drew] at h1); omega⟩), (((((HB.out.setCell (p := ⟨_, 0, none⟩) hg0 _).setCell (p := ⟨_, 1, none⟩) hg0 _).setCell (p := ⟨_, 2, none⟩) hg0 _).setCell (p := ⟨_, 3, none⟩) hg0 _).setCell (p := ⟨_, 4, none⟩) hg0 _)⟩
                      exact AllReadyH.nil
                    exact AllReadyH.nil
                  exact AllReadyH.nil
                exact AllReadyH.nil
              refine AllReadyH.cons rfl (fun K hK => ?_) ?_
              · (go_simp; (have Z : Hid (Zx (w32.heap.size) [.int .i64 0, .slice none 0 0, .slice none 0 0, .slice none 0 0, .slice none 0 0] ((w32.alloc (.cells #[.int .i64 0, .slice none 0 0, .slice none 0 0, .slice none 0 0, .slice none 0 0] 42)).drew)) := Lib.hid (by have h1 := (Zx.new w32 #[.int .i64 0, .slice none 0 0, .slice none 0 0, .slice none 0 0, .slice none 0 0] 42).below (Below.refl _ _).drew; (try simp only [World.size_alloc, World.size_drew] at h1); exact h1)); (have HBp := HB); (have hg0 : w32.heap.size ≤ w32.heap.size := (by (try simp only [World.size_alloc, World.size_drew]); omega)); (replace HB := Lib.hid ((Below.refl w32.heap.size w32).alloc (Nat.le_refl _) (.cells #[.int .i64 0, .slice none 0 0, .slice none 0 0, .slice none 0 0, .slice none 0 0] 42)).drew); (obtain ⟨zq0, zq1, zq2, zq3, zq4, fq⟩ := Z.out.d5))
                refine hK.out _ _ ?_ (fun hH13 => ?_)
                · exact HS.out _ HB.out
                clear hK K hH0
                (try simp only [Act.put, List.setIfInBounds_toArray, List.set_cons_zero, List.set_cons_succ])
                refine wpAnyH_ready (rs := [1]) (by kernel_rfl) (by simp) ?_
                refine AllReadyH.cons rfl (fun K hK => ?_) ?_
                · (go_simp; go_at_call 7; (with_reducible refine (toVat f0 L1 A1 n1 c1 L2 A2 n2 c2 L3 A3 n3 c3 L4 A4 n4 c4 _ (Ja1.out.below HB.out) ht1 hqa1 (Ja2.out.below HB.out) ht2 hqa2 (Ja3.out.below HB.out) ht3 hqa3 (Ja4.out.below HB.out) ht4 hqa4).mono ?_); rintro e w1q ⟨yaA1, yac1, yaA2, yac2, yaA3, yac3, yaA4, yac4, a1, a2, a3, rfl, hO1, hO2, hO3, hO4, -, -, -, -, hb⟩; (have hz1q := hb.size); (try simp only [World.size_alloc, World.size_drew] at hz1q); (have hy1q := HB.out.size); (try simp only [World.size_alloc, World.size_drew] at hy1q); (have Ya1 := Lib.hid hO1.lies); (have Ya2 := Lib.hid hO2.lies); (have Ya3 := Lib.hid hO3.lies); (have Ya4 := Lib.hid hO4.lies); (replace HB := Lib.hid (HB.out.trans (hb.mono HB.out.size))); (replace Z := Lib.hid (Z.out.below hb)); (obtain ⟨zq0, zq1, zq2, zq3, zq4, fq⟩ := Z.out.d5); clear hb hO1 hO2 hO3 hO4; (try (go_wp2_with fail)))
                  refine hK.out _ _ ?_ (fun hH14 => ?_)
                  · exact HS.out _ HB.out
                  clear hK K hH13
                  (try simp only [Act.put, List.setIfInBounds_toArray, List.set_cons_zero, List.set_cons_succ])
                  refine wpAnyH_ready (rs := [4]) (by kernel_rfl) (by simp) ?_
                  refine AllReadyH.cons rfl (fun K hK => ?_) ?_
                  · (go_simp; go_at_call 8; (with_reducible refine (toMessage g0 g1 g2 g3 g4 M5 D5 m5 j5 g6_0 g6_1 g7 g8_0 g8_1 g8_2 _ (Jb5.out.below HB.out) hf5 hqb5).mono ?_); rintro e w2q ⟨ybA5, ybc5, rfl, hO5, hb⟩; (have hz2q := hb.size); (try simp only [World.size_alloc, World.size_drew] at hz2q); (have hy2q := HB.out.size); (try simp only [World.size_alloc, World.size_drew] at hy2q); (replace Ya1 := Lib.hid (Ya1.out.below hb)); (replace Ya2 := Lib.hid (Ya2.out.below hb)); (replace Ya3 := Lib.hid (Ya3.out.below hb)); (replace Ya4 := Lib.hid (Ya4.out.below hb)); (have Yb5 := Lib.hid hO5.lies); (replace HB := Lib.hid (HB.out.trans (hb.mono HB.out.size))); (replace Z := Lib.hid (Z.out.below hb)); (obtain ⟨zq0, zq1, zq2, zq3, zq4, fq⟩ := Z.out.d5); clear hb hO5; (try (go_wp2_with fail)))
                    refine hK.out _ _ ?_ (fun hH15 => ?_)
                    · exact HS.out _ HB.out
                    clear hK K hH14
                    (try simp only [Act.put, List.setIfInBounds_toArray, List.set_cons_zero, List.set_cons_succ])
                    refine wpAnyH_ready (rs := [5]) (by kernel_rfl) (by simp) ?_
                    refine AllReadyH.cons rfl (fun K hK => ?_) ?_
                    · (go_simp; go_at_call 9; (with_reducible refine (CIM.out yaA1 yac1 yaA2 yac2 yaA3 yac3 yaA4 yac4 ybA5 ybc5 _ Ya1.out Ya2.out Ya3.out Ya4.out Yb5.out).mono ?_); rintro e w3q ⟨hA1, hc1, hA2, hc2, hA3, hc3, hA4, hc4, rfl, hV, hb⟩; (have hz3q := hb.size); (try simp only [World.size_alloc, World.size_drew] at hz3q); (have hy3q := HB.out.size); (try simp only [World.size_alloc, World.size_drew] at hy3q); (replace Ya1 := Lib.hid (Ya1.out.below hb)); (replace Ya2 := Lib.hid (Ya2.out.below hb)); (replace Ya3 := Lib.hid (Ya3.out.below hb)); (replace Ya4 := Lib.hid (Ya4.out.below hb)); (replace Yb5 := Lib.hid (Yb5.out.below hb)); (have HV9 := Lib.hid hV); (have hgl := Z.out.lt); (try simp only [World.size_alloc, World.size_drew] at hgl); (replace HB := Lib.hid (HB.out.trans (hb.mono HB.out.size))); (replace Z := Lib.hid (Z.out.below hb)); (obtain ⟨zq0, zq1, zq2, zq3, zq4, fq⟩ := Z.out.d5); clear hb hV; (try (go_wp2_with fail)))
                      refine hK.out _ _ ?_ (fun hH16 => ?_)
                      · exact HS.out _ HB.out
                      clear hK K hH15
                      (try simp only [Act.put, List.setIfInBounds_toArray, List.set_cons_zero, List.set_cons_succ])
                      refine wpAnyH_ready (rs := [7]) (by kernel_rfl) (by simp) ?_
                      refine AllReadyH.cons rfl (fun K hK => ?_) ?_
                      · go_simp
                        refine hK.out _ _ ?_ (fun hH17 => ?_)
                        · exact HS.out _ (((((HB.out.setCell (p := ⟨_, 0, none⟩) hg0 _).setCell (p := ⟨_, 1, none⟩) hg0 _).setCell (p := ⟨_, 2, none⟩) hg0 _).setCell (p := ⟨_, 3, none⟩) hg0 _).setCell (p := ⟨_, 4, none⟩) hg0 _)
                        clear hK K hH16
                        (try simp only [Act.put, List.setIfInBounds_toArray, List.set_cons_zero, List.set_cons_succ])
                        refine wpAnyH_done (by kernel_rfl) ?_ _
                        go_wp2_with fail
                        go_meet
                        exact ⟨_, _, _, _, _, _, _, _, _, rfl, (((((Z.out.put 0 _).put 1 _).put 2 _).put 3 _).put 4 _), (HV9.out.touch ((((((Touch.refl (fun b => b = _) _).setCell (p := ⟨_, 0, none⟩) rfl _).setCell (p := ⟨_, 1, none⟩) rfl _).setCell (p := ⟨_, 2, none⟩) rfl _).setCell (p := ⟨_, 3, none⟩) rfl _).setCell (p := ⟨_, 4, none⟩) rfl _) (fun b hb e => by have h1 := hb.1; (try dsimp only at e); (try simp only [World.size_alloc, World.size_drew] at h1); omega)).mono (fun b hb => ⟨by have h1 := hb.1; (try simp only [World.size_alloc, World.size_drew] at h1); omega, by have h1 := hb.1; (try simp only [World.size_alloc, World.size_drew] at h1); omega⟩), (((((HB.out.setCell (p := ⟨_, 0, none⟩) hg0 _).setCell (p := ⟨_, 1, none⟩) hg0 _).setCell (p := ⟨_, 2, none⟩) hg0 _).setCell (p := ⟨_, 3, none⟩) hg0 _).setCell (p := ⟨_, 4, none⟩) hg0 _)⟩
                      exact AllReadyH.nil
                    exact AllReadyH.nil
                  exact AllReadyH.nil
                exact AllReadyH.nil
              exact AllReadyH.nil
            case rest =>
              rename World => w33
              obtain ⟨gh, hA1, hc1, hA2, hc2, hA3, hc3, hA4, hc4, rfl, hZ, hV, hb⟩ := hcut
              clear HS
              replace Hw : Hid (Owns w33 (.r [.i f0, .l L1, .l L2, .l L3, .l N4]) [.int .i64 f0, .slice wA1 n1 wc1, .slice wA2 n2 wc2, .slice wA3 n3 wc3, .slice wA4 m4 wc4] (fun b => (w2.heap.size ≤ b ∧ b ≠ gw) ∧ b < w3.heap.size)) := Lib.hid (Hw.out.below hb)
              replace Hg : Hid (Owns w33 (.r [.i f0, .l (mkAll L1 (1)), .l (mkAll L2 (1 + cntAll L1)), .l (mkAll L3 (1 + cntAll L1 + cntAll L2)), .l (mkAll N4 (1 + cntAll L1 + cntAll L2 + cntAll L3))]) [.int .i64 f0, .slice gA1 n1 gc1, .slice gA2 n2 gc2, .slice gA3 n3 gc3, .slice gA4 m4 gc4] (rng (w5.heap.size + 1) (w6.heap.size))) := Lib.hid (Hg.out.below hb)
              replace Ba : Hid (Box (W.heap.size) [.int .i64 f0, .slice A1 n1 c1, .slice A2 n2 c2, .slice A3 n3 c3, .slice A4 n4 c4] w33) := Lib.hid (Ba.out.below hb)
              replace Bb : Hid (Box (W.heap.size + 1) [.int .i64 g0, .int .i64 g1, .int .i64 g2, .int .i64 g3, .string g4, .slice D5 m5 j5, .int .i64 g6_0, .int .i64 g6_1, .int .i64 g7, .int .i64 g8_0, .int .i64 g8_1, .int .i64 g8_2] w33) := Lib.hid (Bb.out.below hb)
              replace Bw : Hid (Box (gw) [.int .i64 f0, .slice wA1 n1 wc1, .slice wA2 n2 wc2, .slice wA3 n3 wc3, .slice wA4 m4 wc4] w33) := Lib.hid (Bw.out.below hb)
              replace Bx : Hid (Box (w4.heap.size) [.int .i64 f0, .slice xA1 n1 xc1, .slice xA2 n2 xc2, .slice xA3 n3 xc3, .slice xA4 n4 xc4] w33) := Lib.hid (Bx.out.below hb)
              replace Bz : Hid (Box (w5.heap.size) [.int .i64 g0, .int .i64 g1, .int .i64 g2, .int .i64 g3, .string g4, .slice zA5 m5 zc5, .int .i64 g6_0, .int .i64 g6_1, .int .i64 g7, .int .i64 g8_0, .int .i64 g8_1, .int .i64 g8_2] w33) := Lib.hid (Bz.out.below hb)
              replace Bg : Hid (Box (w6.heap.size) [.int .i64 f0, .slice gA1 n1 gc1, .slice gA2 n2 gc2, .slice gA3 n3 gc3, .slice gA4 m4 gc4] w33) := Lib.hid (Bg.out.below hb)
              replace HT : Hid (Below W.heap.size W w33) := Lib.hid (HT.out.trans (hb.mono HT.out.size))
              have hsw33 : w32.heap.size ≤ w33.heap.size := (by have h1 := hb.size; (try simp only [World.size_alloc, World.size_drew] at h1); exact h1)
              have hzh : gh < w33.heap.size := hZ.lt
              have Bh : Hid (Box (gh) [.int .i64 f0, .slice hA1 n1 hc1, .slice hA2 n2 hc2, .slice hA3 n3 hc3, .slice hA4 m4 hc4] w33) := Lib.hid hZ.1
              have Hh : Hid (Owns w33 (.r [.i f0, .l L1, .l L2, .l L3, .l N4]) [.int .i64 f0, .slice hA1 n1 hc1, .slice hA2 n2 hc2, .slice hA3 n3 hc3, .slice hA4 m4 hc4] (fun b => (w32.heap.size ≤ b ∧ b ≠ gh) ∧ b < w33.heap.size)) := Lib.hid hV.cut.owns
              clear hZ hV hb
              obtain ⟨zh0, zh1, zh2, zh3, zh4⟩ := Bh.out.c5
              obtain ⟨zw0, zw1, zw2, zw3, zw4⟩ := Bw.out.c5
              go_wp2_with fail
              refine (eqVat f0 L1 hA1 n1 hc1 L2 hA2 n2 hc2 L3 hA3 n3 hc3 N4 hA4 m4 hc4 wA1 wc1 wA2 wc2 wA3 wc3 wA4 wc4 _ (liesVat1 Hh.out) (liesVat1 Hw.out) ht1 hm1 (liesVat2 Hh.out) (liesVat2 Hw.out) ht2 hm2 (liesVat3 Hh.out) (liesVat3 Hw.out) ht3 hm3 (liesVat4 Hh.out) (liesVat4 Hw.out) htN4 hmN4).mono ?_
              rintro e w34 ⟨rfl, hb⟩
              clear zh0 zh1 zh2 zh3 zh4
              clear zw0 zw1 zw2 zw3 zw4
              replace Hw : Hid (Owns w34 (.r [.i f0, .l L1, .l L2, .l L3, .l N4]) [.int .i64 f0, .slice wA1 n1 wc1, .slice wA2 n2 wc2, .slice wA3 n3 wc3, .slice wA4 m4 wc4] (fun b => (w2.heap.size ≤ b ∧ b ≠ gw) ∧ b < w3.heap.size)) := Lib.hid (Hw.out.below hb)
              replace Hg : Hid (Owns w34 (.r [.i f0, .l (mkAll L1 (1)), .l (mkAll L2 (1 + cntAll L1)), .l (mkAll L3 (1 + cntAll L1 + cntAll L2)), .l (mkAll N4 (1 + cntAll L1 + cntAll L2 + cntAll L3))]) [.int .i64 f0, .slice gA1 n1 gc1, .slice gA2 n2 gc2, .slice gA3 n3 gc3, .slice gA4 m4 gc4] (rng (w5.heap.size + 1) (w6.heap.size))) := Lib.hid (Hg.out.below hb)
              replace Hh : Hid (Owns w34 (.r [.i f0, .l L1, .l L2, .l L3, .l N4]) [.int .i64 f0, .slice hA1 n1 hc1, .slice hA2 n2 hc2, .slice hA3 n3 hc3, .slice hA4 m4 hc4] (fun b => (w32.heap.size ≤ b ∧ b ≠ gh) ∧ b < w33.heap.size)) := Lib.hid (Hh.out.below hb)
              replace Ba : Hid (Box (W.heap.size) [.int .i64 f0, .slice A1 n1 c1, .slice A2 n2 c2, .slice A3 n3 c3, .slice A4 n4 c4] w34) := Lib.hid (Ba.out.below hb)
              replace Bb : Hid (Box (W.heap.size + 1) [.int .i64 g0, .int .i64 g1, .int .i64 g2, .int .i64 g3, .string g4, .slice D5 m5 j5, .int .i64 g6_0, .int .i64 g6_1, .int .i64 g7, .int .i64 g8_0, .int .i64 g8_1, .int .i64 g8_2] w34) := Lib.hid (Bb.out.below hb)
              replace Bw : Hid (Box (gw) [.int .i64 f0, .slice wA1 n1 wc1, .slice wA2 n2 wc2, .slice wA3 n3 wc3, .slice wA4 m4 wc4] w34) := Lib.hid (Bw.out.below hb)
              replace Bx : Hid (Box (w4.heap.size) [.int .i64 f0, .slice xA1 n1 xc1, .slice xA2 n2 xc2, .slice xA3 n3 xc3, .slice xA4 n4 xc4] w34) := Lib.hid (Bx.out.below hb)
              replace Bz : Hid (Box (w5.heap.size) [.int .i64 g0, .int .i64 g1, .int .i64 g2, .int .i64 g3, .string g4, .slice zA5 m5 zc5, .int .i64 g6_0, .int .i64 g6_1, .int .i64 g7, .int .i64 g8_0, .int .i64 g8_1, .int .i64 g8_2] w34) := Lib.hid (Bz.out.below hb)
              replace Bg : Hid (Box (w6.heap.size) [.int .i64 f0, .slice gA1 n1 gc1, .slice gA2 n2 gc2, .slice gA3 n3 gc3, .slice gA4 m4 gc4] w34) := Lib.hid (Bg.out.below hb)
              replace Bh : Hid (Box (gh) [.int .i64 f0, .slice hA1 n1 hc1, .slice hA2 n2 hc2, .slice hA3 n3 hc3, .slice hA4 m4 hc4] w34) := Lib.hid (Bh.out.below hb)
              replace HT : Hid (Below W.heap.size W w34) := Lib.hid (HT.out.trans (hb.mono HT.out.size))
              have hsw34 : w33.heap.size ≤ w34.heap.size := (by have h1 := hb.size; (try simp only [World.size_alloc, World.size_drew] at h1); exact h1)
              clear hb
              obtain ⟨zg0, zg1, zg2, zg3, zg4⟩ := Bg.out.c5
              go_wp2_with fail
              refine (heldRVat f0 L1 gA1 n1 gc1 L2 gA2 n2 gc2 L3 gA3 n3 gc3 N4 gA4 m4 gc4 (1) _ (liesVat1 Hg.out) (liesVat2 Hg.out) (liesVat3 Hg.out) (liesVat4 Hg.out) ht1 hN1 ht2 hN2 ht3 hN3 htN4 hNN4 (by omega) (by omega)).mono ?_
              rintro e w35 ⟨rfl, hb⟩
              clear zg0 zg1 zg2 zg3 zg4
              replace Hw : Hid (Owns w35 (.r [.i f0, .l L1, .l L2, .l L3, .l N4]) [.int .i64 f0, .slice wA1 n1 wc1, .slice wA2 n2 wc2, .slice wA3 n3 wc3, .slice wA4 m4 wc4] (fun b => (w2.heap.size ≤ b ∧ b ≠ gw) ∧ b < w3.heap.size)) := Lib.hid (Hw.out.below hb)
              replace Hg : Hid (Owns w35 (.r [.i f0, .l (mkAll L1 (1)), .l (mkAll L2 (1 + cntAll L1)), .l (mkAll L3 (1 + cntAll L1 + cntAll L2)), .l (mkAll N4 (1 + cntAll L1 + cntAll L2 + cntAll L3))]) [.int .i64 f0, .slice gA1 n1 gc1, .slice gA2 n2 gc2, .slice gA3 n3 gc3, .slice gA4 m4 gc4] (rng (w5.heap.size + 1) (w6.heap.size))) := Lib.hid (Hg.out.below hb)
              replace Hh : Hid (Owns w35 (.r [.i f0, .l L1, .l L2, .l L3, .l N4]) [.int .i64 f0, .slice hA1 n1 hc1, .slice hA2 n2 hc2, .slice hA3 n3 hc3, .slice hA4 m4 hc4] (fun b => (w32.heap.size ≤ b ∧ b ≠ gh) ∧ b < w33.heap.size)) := Lib.hid (Hh.out.below hb)
              replace Ba : Hid (Box (W.heap.size) [.int .i64 f0, .slice A1 n1 c1, .slice A2 n2 c2, .slice A3 n3 c3, .slice A4 n4 c4] w35) := Lib.hid (Ba.out.below hb)
              replace Bb : Hid (Box (W.heap.size + 1) [.int .i64 g0, .int .i64 g1, .int .i64 g2, .int .i64 g3, .string g4, .slice D5 m5 j5, .int .i64 g6_0, .int .i64 g6_1, .int .i64 g7, .int .i64 g8_0, .int .i64 g8_1, .int .i64 g8_2] w35) := Lib.hid (Bb.out.below hb)
              replace Bw : Hid (Box (gw) [.int .i64 f0, .slice wA1 n1 wc1, .slice wA2 n2 wc2, .slice wA3 n3 wc3, .slice wA4 m4 wc4] w35) := Lib.hid (Bw.out.below hb)
              replace Bx : Hid (Box (w4.heap.size) [.int .i64 f0, .slice xA1 n1 xc1, .slice xA2 n2 xc2, .slice xA3 n3 xc3, .slice xA4 n4 xc4] w35) := Lib.hid (Bx.out.below hb)
              replace Bz : Hid (Box (w5.heap.size) [.int .i64 g0, .int .i64 g1, .int .i64 g2, .int .i64 g3, .string g4, .slice zA5 m5 zc5, .int .i64 g6_0, .int .i64 g6_1, .int .i64 g7, .int .i64 g8_0, .int .i64 g8_1, .int .i64 g8_2] w35) := Lib.hid (Bz.out.below hb)
              replace Bg : Hid (Box (w6.heap.size) [.int .i64 f0, .slice gA1 n1 gc1, .slice gA2 n2 gc2, .slice gA3 n3 gc3, .slice gA4 m4 gc4] w35) := Lib.hid (Bg.out.below hb)
              replace Bh : Hid (Box (gh) [.int .i64 f0, .slice hA1 n1 hc1, .slice hA2 n2 hc2, .slice hA3 n3 hc3, .slice hA4 m4 hc4] w35) := Lib.hid (Bh.out.below hb)
              replace HT : Hid (Below W.heap.size W w35) := Lib.hid (HT.out.trans (hb.mono HT.out.size))
              have hsw35 : w34.heap.size ≤ w35.heap.size := (by have h1 := hb.size; (try simp only [World.size_alloc, World.size_drew] at h1); exact h1)
              clear hb
              go_wp2_with fail
              go_ret
              exact GivesBool.ret HT.out))
end Go.Proofs.YtmeacgpebpfpbaaGreat
