/- Exact laws of chapter 12: AddEntity. -/
import Derived.Test.YtmeacgpebpfpbaaMzAddSF
import Derived.Test.YtmeacgpebpfpbaaMzMarkV7
import Derived.Test.YtmeacgpebpfpbaaMzMarkV5
import Derived.Test.YtmeacgpebpfpbaaMzLokV
import Derived.Test.YtmeacgpebpfpbaaTyV4
import Derived.Test.YtmeacgpebpfpbaaMzTyV5
import Derived.Test.YtmeacgpebpfpbaaMzTyV7
import Derived.Test.YtmeacgpebpfpbaaTyE2
import Derived.Test.YtmeacgpebpfpbaaTyE4
import Derived.Test.YtmeacgpebpfpbaaTyE5
import Derived.Deep.RegionHeld3
import Derived.Deep.RegionLaw
import Derived.Deep.Cut
import Derived.LoopTactic
import Derived.Lib.Hide
import Derived.Deep.QuietTactic
import Derived.BigQuiet
import Derived.Deep.RegionWith
import Derived.Handy
namespace Go.Proofs.Ytmeacgpebpfpbaa
open Go.RowKit
set_option linter.unusedVariables false
set_option linter.unusedSimpArgs false
set_option maxRecDepth 100000 in
set_option maxHeartbeats 16000000 in
theorem law_AddEntity (f0 : Int) (L1 : List Dat) (A1 : Option Addr) (n1 c1 : Nat) (L2 : List Dat) (A2 : Option Addr) (n2 c2 : Nat) (L3 : List Dat) (A3 : Option Addr) (n3 c3 : Nat) (L4 : List Dat) (A4 : Option Addr) (n4 c4 : Nat) (g0 : Int) (g1 : Int) (M2 : List Dat) (D2 : Option Addr) (m2 j2 : Nat) (g3 : Int) (g4_0 : Int) (g4_1 : Int) (M5 : List Dat) (D5 : Option Addr) (m5 j5 : Nat) (M6 : List Dat) (D6 : Option Addr) (m6 j6 : Nat) (g7 : Int) (g8 : Int) (g9 : Int) (g10 : Int) (W : World) (hl1 : Lies W (.l L1) [.slice A1 n1 c1]) (ht1 : ∀ x ∈ L1, Has tyEntity x) (hm1 : n1 ≤ 9223372036854775807) (hl2 : Lies W (.l L2) [.slice A2 n2 c2]) (ht2 : ∀ x ∈ L2, Has tySent x) (hm2 : n2 ≤ 9223372036854775807) (hl3 : Lies W (.l L3) [.slice A3 n3 c3]) (ht3 : ∀ x ∈ L3, Has tyLink x) (hm3 : n3 ≤ 9223372036854775807) (hl4 : Lies W (.l L4) [.slice A4 n4 c4]) (ht4 : ∀ x ∈ L4, Has tyOutgoing x) (hm4 : n4 ≤ 9223372036854775807) (he2 : Lies W (.l M2) [.slice D2 m2 j2]) (hf2 : ∀ x ∈ M2, Has tyValue x) (hb2 : m2 ≤ 9223372036854775807) (he5 : Lies W (.l M5) [.slice D5 m5 j5]) (hf5 : ∀ x ∈ M5, Has tySent x) (hb5 : m5 ≤ 9223372036854775807) (he6 : Lies W (.l M6) [.slice D6 m6 j6]) (hf6 : ∀ x ∈ M6, Has tyAsker x) (hb6 : m6 ≤ 9223372036854775807) (HTE : Has tyEntity (.r [.i g0, .i g1, .l M2, .i g3, .r [.i g4_0, .i g4_1], .l M5, .l M6, .i g7, .i g8, .i g9, .i g10])) :
    Calls Try.prog 8 #[.agg #[.int .i64 f0, .slice A1 n1 c1, .slice A2 n2 c2, .slice A3 n3 c3, .slice A4 n4 c4], .agg #[.int .i64 g0, .int .i64 g1, .slice D2 m2 j2, .int .i64 g3, .int .i64 g4_0, .int .i64 g4_1, .slice D5 m5 j5, .slice D6 m6 j6, .int .i64 g7, .int .i64 g8, .int .i64 g9, .int .i64 g10]] W (GivesBool true W) := by
  have HT : Hid (Below W.heap.size W W) := Lib.hid (Below.refl _ _)
  have hca1 := Lib.hid hl1.count
  have Za1 := Lib.hid hl1
  have hca2 := Lib.hid hl2.count
  have Za2 := Lib.hid hl2
  have hca3 := Lib.hid hl3.count
  have Za3 := Lib.hid hl3
  have hca4 := Lib.hid hl4.count
  have Za4 := Lib.hid hl4
  clear hl1 hl2 hl3 hl4
  have hb : Below W.heap.size W (W.alloc (.cells #[.int .i64 f0, .slice A1 n1 c1, .slice A2 n2 c2, .slice A3 n3 c3, .slice A4 n4 c4] 60)) := (Below.refl _ _).alloc (Nat.le_refl _) _
  replace HT : Hid (Below W.heap.size W (W.alloc (.cells #[.int .i64 f0, .slice A1 n1 c1, .slice A2 n2 c2, .slice A3 n3 c3, .slice A4 n4 c4] 60))) := Lib.hid (HT.out.trans (hb.mono HT.out.size))
  clear hb
  have Ba : Hid (Box (W.heap.size) [.int .i64 f0, .slice A1 n1 c1, .slice A2 n2 c2, .slice A3 n3 c3, .slice A4 n4 c4] (W.alloc (.cells #[.int .i64 f0, .slice A1 n1 c1, .slice A2 n2 c2, .slice A3 n3 c3, .slice A4 n4 c4] 60))) := Lib.hid (by have h1 := Box.new W #[.int .i64 f0, .slice A1 n1 c1, .slice A2 n2 c2, .slice A3 n3 c3, .slice A4 n4 c4] 60; (try simp only [World.size_alloc] at h1); exact h1)
  have hcb2 := Lib.hid he2.count
  have Zb2 := Lib.hid he2
  have hcb5 := Lib.hid he5.count
  have Zb5 := Lib.hid he5
  have hcb6 := Lib.hid he6.count
  have Zb6 := Lib.hid he6
  clear he2 he5 he6
  have hb : Below (W.alloc (.cells #[.int .i64 f0, .slice A1 n1 c1, .slice A2 n2 c2, .slice A3 n3 c3, .slice A4 n4 c4] 60)).heap.size (W.alloc (.cells #[.int .i64 f0, .slice A1 n1 c1, .slice A2 n2 c2, .slice A3 n3 c3, .slice A4 n4 c4] 60)) ((W.alloc (.cells #[.int .i64 f0, .slice A1 n1 c1, .slice A2 n2 c2, .slice A3 n3 c3, .slice A4 n4 c4] 60)).alloc (.cells #[.int .i64 g0, .int .i64 g1, .slice D2 m2 j2, .int .i64 g3, .int .i64 g4_0, .int .i64 g4_1, .slice D5 m5 j5, .slice D6 m6 j6, .int .i64 g7, .int .i64 g8, .int .i64 g9, .int .i64 g10] 71)) := (Below.refl _ _).alloc (Nat.le_refl _) _
  replace Ba : Hid (Box (W.heap.size) [.int .i64 f0, .slice A1 n1 c1, .slice A2 n2 c2, .slice A3 n3 c3, .slice A4 n4 c4] ((W.alloc (.cells #[.int .i64 f0, .slice A1 n1 c1, .slice A2 n2 c2, .slice A3 n3 c3, .slice A4 n4 c4] 60)).alloc (.cells #[.int .i64 g0, .int .i64 g1, .slice D2 m2 j2, .int .i64 g3, .int .i64 g4_0, .int .i64 g4_1, .slice D5 m5 j5, .slice D6 m6 j6, .int .i64 g7, .int .i64 g8, .int .i64 g9, .int .i64 g10] 71))) := Lib.hid (Ba.out.below hb)
  replace HT : Hid (Below W.heap.size W ((W.alloc (.cells #[.int .i64 f0, .slice A1 n1 c1, .slice A2 n2 c2, .slice A3 n3 c3, .slice A4 n4 c4] 60)).alloc (.cells #[.int .i64 g0, .int .i64 g1, .slice D2 m2 j2, .int .i64 g3, .int .i64 g4_0, .int .i64 g4_1, .slice D5 m5 j5, .slice D6 m6 j6, .int .i64 g7, .int .i64 g8, .int .i64 g9, .int .i64 g10] 71))) := Lib.hid (HT.out.trans (hb.mono HT.out.size))
  clear hb
  have Bb : Hid (Box (W.heap.size + 1) [.int .i64 g0, .int .i64 g1, .slice D2 m2 j2, .int .i64 g3, .int .i64 g4_0, .int .i64 g4_1, .slice D5 m5 j5, .slice D6 m6 j6, .int .i64 g7, .int .i64 g8, .int .i64 g9, .int .i64 g10] ((W.alloc (.cells #[.int .i64 f0, .slice A1 n1 c1, .slice A2 n2 c2, .slice A3 n3 c3, .slice A4 n4 c4] 60)).alloc (.cells #[.int .i64 g0, .int .i64 g1, .slice D2 m2 j2, .int .i64 g3, .int .i64 g4_0, .int .i64 g4_1, .slice D5 m5 j5, .slice D6 m6 j6, .int .i64 g7, .int .i64 g8, .int .i64 g9, .int .i64 g10] 71))) := Lib.hid (by have h1 := Box.new (W.alloc (.cells #[.int .i64 f0, .slice A1 n1 c1, .slice A2 n2 c2, .slice A3 n3 c3, .slice A4 n4 c4] 60)) #[.int .i64 g0, .int .i64 g1, .slice D2 m2 j2, .int .i64 g3, .int .i64 g4_0, .int .i64 g4_1, .slice D5 m5 j5, .slice D6 m6 j6, .int .i64 g7, .int .i64 g8, .int .i64 g9, .int .i64 g10] 71; (try simp only [World.size_alloc] at h1); exact h1)
  rcases leftD_cases (.r [.i f0, .l L1, .l L2, .l L3, .l L4]) 1048576 with hbig | ⟨ra, hra, hr0a, hr1a, hbka⟩
  case inl =>
    have HBIG := Lib.hid hbig
    clear hbig
    go_enter Try.func8, Try.ntmps8
    obtain ⟨za0, za1, za2, za3, za4⟩ := Ba.out.c5
    go_wp2_with fail
    refine (szVat f0 L1 A1 n1 c1 L2 A2 n2 c2 L3 A3 n3 c3 L4 A4 n4 c4 (1048576) _ (by omega) (by omega) (Za1.out.below HT.out) ht1 hm1 (Za2.out.below HT.out) ht2 hm2 (Za3.out.below HT.out) ht3 hm3 (Za4.out.below HT.out) ht4 hm4).mono ?_
    rintro e w1 ⟨rfl, hb⟩
    rw [HBIG.out]
    clear za0 za1 za2 za3 za4
    replace Ba : Hid (Box (W.heap.size) [.int .i64 f0, .slice A1 n1 c1, .slice A2 n2 c2, .slice A3 n3 c3, .slice A4 n4 c4] w1) := Lib.hid (Ba.out.below hb)
    replace Bb : Hid (Box (W.heap.size + 1) [.int .i64 g0, .int .i64 g1, .slice D2 m2 j2, .int .i64 g3, .int .i64 g4_0, .int .i64 g4_1, .slice D5 m5 j5, .slice D6 m6 j6, .int .i64 g7, .int .i64 g8, .int .i64 g9, .int .i64 g10] w1) := Lib.hid (Bb.out.below hb)
    replace HT : Hid (Below W.heap.size W w1) := Lib.hid (HT.out.trans (hb.mono HT.out.size))
    have hsw1 : W.heap.size + 1 + 1 ≤ w1.heap.size := (by have h1 := hb.size; (try simp only [World.size_alloc, World.size_drew] at h1); exact h1)
    clear hb
    go_wp2_with fail
    go_ret
    exact GivesBool.ret HT.out
  case inr =>
    have HRa := Lib.hid hra
    clear hra
    have hqa1 : (Dat.l L1).bulk ≤ 1099511627776 := by simp only [Dat.bulk, bulkAll] at hbka ⊢; omega
    have hwa1 : (Dat.l L1).bulk ≤ 549755813888 := by simp only [Dat.bulk, bulkAll] at hbka ⊢; omega
    have hva1 : (Dat.l L1).bulk ≤ 1048576 := by simp only [Dat.bulk, bulkAll] at hbka ⊢; omega
    have hna1 : n1 ≤ 1048576 := by have h1 := hca1.out; have h2 := hva1; simp only [Dat.bulk] at h2; omega
    have hN1 : n1 ≤ 1099511627776 := by omega
    have hka1 : (cntAll L1 : Int) ≤ 16777216 := by have h1 := cnt_few (K := 16) (B := 1048576) (t := tyEntity) (by decide) ht1 hva1; omega
    have hqa2 : (Dat.l L2).bulk ≤ 1099511627776 := by simp only [Dat.bulk, bulkAll] at hbka ⊢; omega
    have hwa2 : (Dat.l L2).bulk ≤ 549755813888 := by simp only [Dat.bulk, bulkAll] at hbka ⊢; omega
    have hva2 : (Dat.l L2).bulk ≤ 1048576 := by simp only [Dat.bulk, bulkAll] at hbka ⊢; omega
    have hna2 : n2 ≤ 1048576 := by have h1 := hca2.out; have h2 := hva2; simp only [Dat.bulk] at h2; omega
    have hN2 : n2 ≤ 1099511627776 := by omega
    have hka2 : (cntAll L2 : Int) ≤ 16777216 := by have h1 := cnt_few (K := 16) (B := 1048576) (t := tySent) (by decide) ht2 hva2; omega
    have hqa3 : (Dat.l L3).bulk ≤ 1099511627776 := by simp only [Dat.bulk, bulkAll] at hbka ⊢; omega
    have hwa3 : (Dat.l L3).bulk ≤ 549755813888 := by simp only [Dat.bulk, bulkAll] at hbka ⊢; omega
    have hva3 : (Dat.l L3).bulk ≤ 1048576 := by simp only [Dat.bulk, bulkAll] at hbka ⊢; omega
    have hna3 : n3 ≤ 1048576 := by have h1 := hca3.out; have h2 := hva3; simp only [Dat.bulk] at h2; omega
    have hN3 : n3 ≤ 1099511627776 := by omega
    have hka3 : (cntAll L3 : Int) ≤ 16777216 := by have h1 := cnt_few (K := 16) (B := 1048576) (t := tyLink) (by decide) ht3 hva3; omega
    have hqa4 : (Dat.l L4).bulk ≤ 1099511627776 := by simp only [Dat.bulk, bulkAll] at hbka ⊢; omega
    have hwa4 : (Dat.l L4).bulk ≤ 549755813888 := by simp only [Dat.bulk, bulkAll] at hbka ⊢; omega
    have hva4 : (Dat.l L4).bulk ≤ 1048576 := by simp only [Dat.bulk, bulkAll] at hbka ⊢; omega
    have hna4 : n4 ≤ 1048576 := by have h1 := hca4.out; have h2 := hva4; simp only [Dat.bulk] at h2; omega
    have hN4 : n4 ≤ 1099511627776 := by omega
    have hka4 : (cntAll L4 : Int) ≤ 16777216 := by have h1 := cnt_few (K := 16) (B := 1048576) (t := tyOutgoing) (by decide) ht4 hva4; omega
    rcases leftD_cases (.r [.i g0, .i g1, .l M2, .i g3, .r [.i g4_0, .i g4_1], .l M5, .l M6, .i g7, .i g8, .i g9, .i g10]) ra with hbig | ⟨rb, hrb, hr0b, hr1b, hbkb⟩
    case inl =>
      have HBIG := Lib.hid hbig
      clear hbig
      go_enter Try.func8, Try.ntmps8
      obtain ⟨za0, za1, za2, za3, za4⟩ := Ba.out.c5
      go_wp2_with fail
      refine (szVat f0 L1 A1 n1 c1 L2 A2 n2 c2 L3 A3 n3 c3 L4 A4 n4 c4 (1048576) _ (by omega) (by omega) (Za1.out.below HT.out) ht1 hm1 (Za2.out.below HT.out) ht2 hm2 (Za3.out.below HT.out) ht3 hm3 (Za4.out.below HT.out) ht4 hm4).mono ?_
      rintro e w1 ⟨rfl, hb⟩
      rw [HRa.out]
      clear za0 za1 za2 za3 za4
      replace Ba : Hid (Box (W.heap.size) [.int .i64 f0, .slice A1 n1 c1, .slice A2 n2 c2, .slice A3 n3 c3, .slice A4 n4 c4] w1) := Lib.hid (Ba.out.below hb)
      replace Bb : Hid (Box (W.heap.size + 1) [.int .i64 g0, .int .i64 g1, .slice D2 m2 j2, .int .i64 g3, .int .i64 g4_0, .int .i64 g4_1, .slice D5 m5 j5, .slice D6 m6 j6, .int .i64 g7, .int .i64 g8, .int .i64 g9, .int .i64 g10] w1) := Lib.hid (Bb.out.below hb)
      replace HT : Hid (Below W.heap.size W w1) := Lib.hid (HT.out.trans (hb.mono HT.out.size))
      have hsw1 : W.heap.size + 1 + 1 ≤ w1.heap.size := (by have h1 := hb.size; (try simp only [World.size_alloc, World.size_drew] at h1); exact h1)
      clear hb
      obtain ⟨zb0, zb1, zb2, zb3, zb4, zb5, zb6, zb7, zb8, zb9, zb10, zb11⟩ := Bb.out.c12
      go_wp2_with fail
      refine (szEntity g0 g1 M2 D2 m2 j2 g3 g4_0 g4_1 M5 D5 m5 j5 M6 D6 m6 j6 g7 g8 g9 g10 (ra) _ (by omega) (by omega) (Zb2.out.below HT.out) hf2 hb2 (Zb5.out.below HT.out) hf5 hb5 (Zb6.out.below HT.out) hf6 hb6).mono ?_
      rintro e w2 ⟨rfl, hb⟩
      rw [HBIG.out]
      clear zb0 zb1 zb2 zb3 zb4 zb5 zb6 zb7 zb8 zb9 zb10 zb11
      replace Ba : Hid (Box (W.heap.size) [.int .i64 f0, .slice A1 n1 c1, .slice A2 n2 c2, .slice A3 n3 c3, .slice A4 n4 c4] w2) := Lib.hid (Ba.out.below hb)
      replace Bb : Hid (Box (W.heap.size + 1) [.int .i64 g0, .int .i64 g1, .slice D2 m2 j2, .int .i64 g3, .int .i64 g4_0, .int .i64 g4_1, .slice D5 m5 j5, .slice D6 m6 j6, .int .i64 g7, .int .i64 g8, .int .i64 g9, .int .i64 g10] w2) := Lib.hid (Bb.out.below hb)
      replace HT : Hid (Below W.heap.size W w2) := Lib.hid (HT.out.trans (hb.mono HT.out.size))
      have hsw2 : w1.heap.size ≤ w2.heap.size := (by have h1 := hb.size; (try simp only [World.size_alloc, World.size_drew] at h1); exact h1)
      clear hb
      go_wp2_with fail
      go_ret
      exact GivesBool.ret HT.out
    case inr =>
      have HRb := Lib.hid hrb
      clear hrb
      have hqb2 : (Dat.l M2).bulk ≤ 1099511627776 := by simp only [Dat.bulk, bulkAll] at hbkb ⊢; omega
      have hwb2 : (Dat.l M2).bulk ≤ 549755813888 := by simp only [Dat.bulk, bulkAll] at hbkb ⊢; omega
      have hvb2 : (Dat.l M2).bulk ≤ 1048576 := by simp only [Dat.bulk, bulkAll] at hbkb ⊢; omega
      have hnb2 : m2 ≤ 1048576 := by have h1 := hcb2.out; have h2 := hvb2; simp only [Dat.bulk] at h2; omega
      have hP2 : m2 ≤ 1099511627776 := by omega
      have hkb2 : (cntAll M2 : Int) ≤ 16777216 := by have h1 := cnt_few (K := 16) (B := 1048576) (t := tyValue) (by decide) hf2 hvb2; omega
      have hqb5 : (Dat.l M5).bulk ≤ 1099511627776 := by simp only [Dat.bulk, bulkAll] at hbkb ⊢; omega
      have hwb5 : (Dat.l M5).bulk ≤ 549755813888 := by simp only [Dat.bulk, bulkAll] at hbkb ⊢; omega
      have hvb5 : (Dat.l M5).bulk ≤ 1048576 := by simp only [Dat.bulk, bulkAll] at hbkb ⊢; omega
      have hnb5 : m5 ≤ 1048576 := by have h1 := hcb5.out; have h2 := hvb5; simp only [Dat.bulk] at h2; omega
      have hP5 : m5 ≤ 1099511627776 := by omega
      have hkb5 : (cntAll M5 : Int) ≤ 16777216 := by have h1 := cnt_few (K := 16) (B := 1048576) (t := tySent) (by decide) hf5 hvb5; omega
      have hqb6 : (Dat.l M6).bulk ≤ 1099511627776 := by simp only [Dat.bulk, bulkAll] at hbkb ⊢; omega
      have hwb6 : (Dat.l M6).bulk ≤ 549755813888 := by simp only [Dat.bulk, bulkAll] at hbkb ⊢; omega
      have hvb6 : (Dat.l M6).bulk ≤ 1048576 := by simp only [Dat.bulk, bulkAll] at hbkb ⊢; omega
      have hnb6 : m6 ≤ 1048576 := by have h1 := hcb6.out; have h2 := hvb6; simp only [Dat.bulk] at h2; omega
      have hP6 : m6 ≤ 1099511627776 := by omega
      have hkb6 : (cntAll M6 : Int) ≤ 16777216 := by have h1 := cnt_few (K := 16) (B := 1048576) (t := tyAsker) (by decide) hf6 hvb6; omega
      obtain ⟨N1, hN1e⟩ : ∃ N, addL L1 n1 (.r [.i g0, .i g1, .l M2, .i g3, .r [.i g4_0, .i g4_1], .l M5, .l M6, .i g7, .i g8, .i g9, .i g10]) = N := ⟨_, rfl⟩
      obtain ⟨m1, hm1e⟩ : ∃ m, addN n1 = m := ⟨_, rfl⟩
      obtain ⟨v, hve⟩ : ∃ v, addV n1 = v := ⟨_, rfl⟩
      have hbe : (.r [.i g0, .i g1, .l M2, .i g3, .r [.i g4_0, .i g4_1], .l M5, .l M6, .i g7, .i g8, .i g9, .i g10] : Dat).bulk ≤ 1048576 := by omega
      have hTe : Has tyEntity (.r [.i g0, .i g1, .l M2, .i g3, .r [.i g4_0, .i g4_1], .l M5, .l M6, .i g7, .i g8, .i g9, .i g10]) := HTE
      have hcn : N1.length = m1 := by rw [← hN1e, ← hm1e, addL, addN]; split <;> simp [hca1.out]
      have htN1 : ∀ x ∈ N1, Has tyEntity x := by intro x hx; rw [← hN1e, addL] at hx; split at hx; exact ht1 x hx; rcases List.mem_append.1 hx with h | h; exact ht1 x h; rw [List.mem_singleton.1 h]; exact hTe
      have hm1b : m1 ≤ 1048577 := by rw [← hm1e, addN]; split <;> omega
      have hbN1 : (Dat.l N1).bulk ≤ 4194304 := by rw [← hN1e, addL]; simp only [Dat.bulk] at hva1 ⊢; split; omega; rw [List.length_append, bulkAll_append]; simp only [bulkAll, List.length_singleton]; omega
      have hmN1 : m1 ≤ 9223372036854775807 := by omega
      have hNN1 : m1 ≤ 1099511627776 := by omega
      have hkN1 : (cntAll N1 : Int) ≤ 67108864 := by have h1 := cnt_few (K := 16) (B := 4194304) (t := tyEntity) (by decide) htN1 hbN1; omega
      have CSP : Hid (∀ (A1 : Option Addr) (c1 : Nat) (A2 : Option Addr) (c2 : Nat) (A3 : Option Addr) (c3 : Nat) (A4 : Option Addr) (c4 : Nat) (D2 : Option Addr) (j2 : Nat) (D5 : Option Addr) (j5 : Nat) (D6 : Option Addr) (j6 : Nat) (w : World), Lies w (.l L1) [.slice A1 n1 c1] → Lies w (.l L2) [.slice A2 n2 c2] → Lies w (.l L3) [.slice A3 n3 c3] → Lies w (.l L4) [.slice A4 n4 c4] → Lies w (.l M2) [.slice D2 m2 j2] → Lies w (.l M5) [.slice D5 m5 j5] → Lies w (.l M6) [.slice D6 m6 j6] → Calls Try.prog 36 #[.agg #[.int .i64 f0, .slice A1 n1 c1, .slice A2 n2 c2, .slice A3 n3 c3, .slice A4 n4 c4], .agg #[.int .i64 g0, .int .i64 g1, .slice D2 m2 j2, .int .i64 g3, .int .i64 g4_0, .int .i64 g4_1, .slice D5 m5 j5, .slice D6 m6 j6, .int .i64 g7, .int .i64 g8, .int .i64 g9, .int .i64 g10]] w (GivesVtI f0 N1 m1 L2 n2 L3 n3 L4 n4 v w)) := Lib.hid (fun A1 c1 A2 c2 A3 c3 A4 c4 D2 j2 D5 j5 D6 j6 w p1 p2 p3 p4 q2 q5 q6 => by rw [← hN1e, ← hm1e, ← hve]; exact specAddE f0 L1 A1 n1 c1 L2 A2 n2 c2 L3 A3 n3 c3 L4 A4 n4 c4 g0 g1 M2 D2 m2 j2 g3 g4_0 g4_1 M5 D5 m5 j5 M6 D6 m6 j6 g7 g8 g9 g10 w p1 ht1 hwa1 p2 ht2 hwa2 p3 ht3 hwa3 p4 ht4 hwa4 q2 hf2 hwb2 q5 hf5 hwb5 q6 hf6 hwb6)
      have CIM : Hid (∀ (A1 : Option Addr) (c1 : Nat) (A2 : Option Addr) (c2 : Nat) (A3 : Option Addr) (c3 : Nat) (A4 : Option Addr) (c4 : Nat) (D2 : Option Addr) (j2 : Nat) (D5 : Option Addr) (j5 : Nat) (D6 : Option Addr) (j6 : Nat) (w : World), Lies w (.l L1) [.slice A1 n1 c1] → Lies w (.l L2) [.slice A2 n2 c2] → Lies w (.l L3) [.slice A3 n3 c3] → Lies w (.l L4) [.slice A4 n4 c4] → Lies w (.l M2) [.slice D2 m2 j2] → Lies w (.l M5) [.slice D5 m5 j5] → Lies w (.l M6) [.slice D6 m6 j6] → Calls Try.prog 15 #[.agg #[.int .i64 f0, .slice A1 n1 c1, .slice A2 n2 c2, .slice A3 n3 c3, .slice A4 n4 c4], .agg #[.int .i64 g0, .int .i64 g1, .slice D2 m2 j2, .int .i64 g3, .int .i64 g4_0, .int .i64 g4_1, .slice D5 m5 j5, .slice D6 m6 j6, .int .i64 g7, .int .i64 g8, .int .i64 g9, .int .i64 g10]] w (GivesVtI f0 N1 m1 L2 n2 L3 n3 L4 n4 v w)) := Lib.hid (fun A1 c1 A2 c2 A3 c3 A4 c4 D2 j2 D5 j5 D6 j6 w p1 p2 p3 p4 q2 q5 q6 => by rw [← hN1e, ← hm1e, ← hve]; exact implAddE f0 L1 A1 n1 c1 L2 A2 n2 c2 L3 A3 n3 c3 L4 A4 n4 c4 g0 g1 M2 D2 m2 j2 g3 g4_0 g4_1 M5 D5 m5 j5 M6 D6 m6 j6 g7 g8 g9 g10 w p1 ht1 hwa1 p2 ht2 hwa2 p3 ht3 hwa3 p4 ht4 hwa4 q2 hf2 hwb2 q5 hf5 hwb5 q6 hf6 hwb6)
      have HCN := Lib.hid hcn
      clear hN1e hm1e hve hcn hTe HTE
      go_enter Try.func8, Try.ntmps8
      obtain ⟨za0, za1, za2, za3, za4⟩ := Ba.out.c5
      go_wp2_with fail
      refine (szVat f0 L1 A1 n1 c1 L2 A2 n2 c2 L3 A3 n3 c3 L4 A4 n4 c4 (1048576) _ (by omega) (by omega) (Za1.out.below HT.out) ht1 hm1 (Za2.out.below HT.out) ht2 hm2 (Za3.out.below HT.out) ht3 hm3 (Za4.out.below HT.out) ht4 hm4).mono ?_
      rintro e w1 ⟨rfl, hb⟩
      rw [HRa.out]
      clear za0 za1 za2 za3 za4
      replace Ba : Hid (Box (W.heap.size) [.int .i64 f0, .slice A1 n1 c1, .slice A2 n2 c2, .slice A3 n3 c3, .slice A4 n4 c4] w1) := Lib.hid (Ba.out.below hb)
      replace Bb : Hid (Box (W.heap.size + 1) [.int .i64 g0, .int .i64 g1, .slice D2 m2 j2, .int .i64 g3, .int .i64 g4_0, .int .i64 g4_1, .slice D5 m5 j5, .slice D6 m6 j6, .int .i64 g7, .int .i64 g8, .int .i64 g9, .int .i64 g10] w1) := Lib.hid (Bb.out.below hb)
      replace HT : Hid (Below W.heap.size W w1) := Lib.hid (HT.out.trans (hb.mono HT.out.size))
      have hsw1 : W.heap.size + 1 + 1 ≤ w1.heap.size := (by have h1 := hb.size; (try simp only [World.size_alloc, World.size_drew] at h1); exact h1)
      clear hb
      obtain ⟨zb0, zb1, zb2, zb3, zb4, zb5, zb6, zb7, zb8, zb9, zb10, zb11⟩ := Bb.out.c12
      go_wp2_with fail
      refine (szEntity g0 g1 M2 D2 m2 j2 g3 g4_0 g4_1 M5 D5 m5 j5 M6 D6 m6 j6 g7 g8 g9 g10 (ra) _ (by omega) (by omega) (Zb2.out.below HT.out) hf2 hb2 (Zb5.out.below HT.out) hf5 hb5 (Zb6.out.below HT.out) hf6 hb6).mono ?_
      rintro e w2 ⟨rfl, hb⟩
      rw [HRb.out]
      clear zb0 zb1 zb2 zb3 zb4 zb5 zb6 zb7 zb8 zb9 zb10 zb11
      replace Ba : Hid (Box (W.heap.size) [.int .i64 f0, .slice A1 n1 c1, .slice A2 n2 c2, .slice A3 n3 c3, .slice A4 n4 c4] w2) := Lib.hid (Ba.out.below hb)
      replace Bb : Hid (Box (W.heap.size + 1) [.int .i64 g0, .int .i64 g1, .slice D2 m2 j2, .int .i64 g3, .int .i64 g4_0, .int .i64 g4_1, .slice D5 m5 j5, .slice D6 m6 j6, .int .i64 g7, .int .i64 g8, .int .i64 g9, .int .i64 g10] w2) := Lib.hid (Bb.out.below hb)
      replace HT : Hid (Below W.heap.size W w2) := Lib.hid (HT.out.trans (hb.mono HT.out.size))
      have hsw2 : w1.heap.size ≤ w2.heap.size := (by have h1 := hb.size; (try simp only [World.size_alloc, World.size_drew] at h1); exact h1)
      clear hb
      go_upto_region 8 with (fail)
      have HS : Hid (∀ w' : World, Below w2.heap.size w2 w' → ((w'.cell? ⟨W.heap.size, 0, none⟩ = some (.int .i64 f0) ∧ w'.cell? ⟨W.heap.size, 1, none⟩ = some (.slice A1 n1 c1) ∧ w'.cell? ⟨W.heap.size, 2, none⟩ = some (.slice A2 n2 c2) ∧ w'.cell? ⟨W.heap.size, 3, none⟩ = some (.slice A3 n3 c3) ∧ w'.cell? ⟨W.heap.size, 4, none⟩ = some (.slice A4 n4 c4)) ∧ (w'.cell? ⟨W.heap.size + 1, 0, none⟩ = some (.int .i64 g0) ∧ w'.cell? ⟨W.heap.size + 1, 1, none⟩ = some (.int .i64 g1) ∧ w'.cell? ⟨W.heap.size + 1, 2, none⟩ = some (.slice D2 m2 j2) ∧ w'.cell? ⟨W.heap.size + 1, 3, none⟩ = some (.int .i64 g3) ∧ w'.cell? ⟨W.heap.size + 1, 4, none⟩ = some (.int .i64 g4_0) ∧ w'.cell? ⟨W.heap.size + 1, 5, none⟩ = some (.int .i64 g4_1) ∧ w'.cell? ⟨W.heap.size + 1, 6, none⟩ = some (.slice D5 m5 j5) ∧ w'.cell? ⟨W.heap.size + 1, 7, none⟩ = some (.slice D6 m6 j6) ∧ w'.cell? ⟨W.heap.size + 1, 8, none⟩ = some (.int .i64 g7) ∧ w'.cell? ⟨W.heap.size + 1, 9, none⟩ = some (.int .i64 g8) ∧ w'.cell? ⟨W.heap.size + 1, 10, none⟩ = some (.int .i64 g9) ∧ w'.cell? ⟨W.heap.size + 1, 11, none⟩ = some (.int .i64 g10)))) := Lib.hid (fun w' hb => ⟨(Ba.out.below hb).c5, (Bb.out.below hb).c12⟩)
      go_cut [6, 7] from 27 to 34 (fun s6 s7 wq => ∃ (g : Nat) (wA1 : Option Addr) (wc1 : Nat) (wA2 : Option Addr) (wc2 : Nat) (wA3 : Option Addr) (wc3 : Nat) (wA4 : Option Addr) (wc4 : Nat), s6 = .pointer (some ⟨g, 0, none⟩) ∧ s7 = .int .i64 v ∧ Zx g [.int .i64 f0, .slice wA1 m1 wc1, .slice wA2 n2 wc2, .slice wA3 n3 wc3, .slice wA4 n4 wc4] wq ∧ VatX (fun b => w2.heap.size ≤ b ∧ b ≠ g) wq N1 wA1 m1 wc1 L2 wA2 n2 wc2 L3 wA3 n3 wc3 L4 wA4 n4 wc4 ∧ Below w2.heap.size w2 wq)
      case first =>
        have Ja1 := Lib.hid (Za1.out.below HT.out)
        have Ja2 := Lib.hid (Za2.out.below HT.out)
        have Ja3 := Lib.hid (Za3.out.below HT.out)
        have Ja4 := Lib.hid (Za4.out.below HT.out)
        have Jb2 := Lib.hid (Zb2.out.below HT.out)
        have Jb5 := Lib.hid (Zb5.out.below HT.out)
        have Jb6 := Lib.hid (Zb6.out.below HT.out)
        have HB : Hid (Below w2.heap.size w2 w2.drew) := Lib.hid (Below.refl _ _).drew
        refine wp_region_held_drew (S := (fun w' => (w'.cell? ⟨W.heap.size, 0, none⟩ = some (.int .i64 f0) ∧ w'.cell? ⟨W.heap.size, 1, none⟩ = some (.slice A1 n1 c1) ∧ w'.cell? ⟨W.heap.size, 2, none⟩ = some (.slice A2 n2 c2) ∧ w'.cell? ⟨W.heap.size, 3, none⟩ = some (.slice A3 n3 c3) ∧ w'.cell? ⟨W.heap.size, 4, none⟩ = some (.slice A4 n4 c4)) ∧ (w'.cell? ⟨W.heap.size + 1, 0, none⟩ = some (.int .i64 g0) ∧ w'.cell? ⟨W.heap.size + 1, 1, none⟩ = some (.int .i64 g1) ∧ w'.cell? ⟨W.heap.size + 1, 2, none⟩ = some (.slice D2 m2 j2) ∧ w'.cell? ⟨W.heap.size + 1, 3, none⟩ = some (.int .i64 g3) ∧ w'.cell? ⟨W.heap.size + 1, 4, none⟩ = some (.int .i64 g4_0) ∧ w'.cell? ⟨W.heap.size + 1, 5, none⟩ = some (.int .i64 g4_1) ∧ w'.cell? ⟨W.heap.size + 1, 6, none⟩ = some (.slice D5 m5 j5) ∧ w'.cell? ⟨W.heap.size + 1, 7, none⟩ = some (.slice D6 m6 j6) ∧ w'.cell? ⟨W.heap.size + 1, 8, none⟩ = some (.int .i64 g7) ∧ w'.cell? ⟨W.heap.size + 1, 9, none⟩ = some (.int .i64 g8) ∧ w'.cell? ⟨W.heap.size + 1, 10, none⟩ = some (.int .i64 g9) ∧ w'.cell? ⟨W.heap.size + 1, 11, none⟩ = some (.int .i64 g10)))) (by kernel_rfl) ?_ (fun hH0 => ?_)
        · exact HS.out _ HB.out
        refine wpAnyH_take (i := 0) (v := ?_) rfl (by kernel_rfl) (by kernel_rfl) (by kernel_rfl) (fun _ _ _ h => h) (Or.inl ⟨by rfl, ?_⟩) hH0 ?_
        rotate_left
        · intro w hSw; (try dsimp only at hSw); go_simp; (try with_reducible rfl)
        simp only [Act.put, List.setIfInBounds_toArray, List.set_cons_zero, List.set_cons_succ]
        refine wpAnyH_take (i := 2) (v := ?_) rfl (by kernel_rfl) (by kernel_rfl) (by kernel_rfl) (fun _ _ _ h => h) (Or.inl ⟨by rfl, ?_⟩) hH0 ?_
        rotate_left
        · intro w hSw; (try dsimp only at hSw); go_simp; (try with_reducible rfl)
        simp only [Act.put, List.setIfInBounds_toArray, List.set_cons_zero, List.set_cons_succ]
        refine wpAnyH_ready (rs := [1, 8]) (by kernel_rfl) (by simp) ?_
        refine AllReadyH.cons rfl (fun K hK => ?_) ?_
        · (go_simp; go_at_call 30; (with_reducible refine (toVat f0 L1 A1 n1 c1 L2 A2 n2 c2 L3 A3 n3 c3 L4 A4 n4 c4 _ (Ja1.out.below HB.out) ht1 hqa1 (Ja2.out.below HB.out) ht2 hqa2 (Ja3.out.below HB.out) ht3 hqa3 (Ja4.out.below HB.out) ht4 hqa4).mono ?_); rintro e w1q ⟨yaA1, yac1, yaA2, yac2, yaA3, yac3, yaA4, yac4, a1, a2, a3, rfl, hO1, hO2, hO3, hO4, -, -, -, -, hb⟩; (have hz1q := hb.size); (try simp only [World.size_alloc, World.size_drew] at hz1q); (have hy1q := HB.out.size); (try simp only [World.size_alloc, World.size_drew] at hy1q); (have Ya1 := Lib.hid hO1.lies); (have Ya2 := Lib.hid hO2.lies); (have Ya3 := Lib.hid hO3.lies); (have Ya4 := Lib.hid hO4.lies); (replace HB := Lib.hid (HB.out.trans (hb.mono HB.out.size))); clear hb hO1 hO2 hO3 hO4; (try (go_wp2_with fail)))
          refine hK.out _ _ ?_ (fun hH1 => ?_)
          · exact HS.out _ HB.out
          clear hK K hH0
          (try simp only [Act.put, List.setIfInBounds_toArray, List.set_cons_zero, List.set_cons_succ])
          refine wpAnyH_ready (rs := [3, 8]) (by kernel_rfl) (by simp) ?_
          refine AllReadyH.cons rfl (fun K hK => ?_) ?_
          · (go_simp; go_at_call 37; (with_reducible refine (toEntity g0 g1 M2 D2 m2 j2 g3 g4_0 g4_1 M5 D5 m5 j5 M6 D6 m6 j6 g7 g8 g9 g10 _ (Jb2.out.below HB.out) hf2 hqb2 (Jb5.out.below HB.out) hf5 hqb5 (Jb6.out.below HB.out) hf6 hqb6).mono ?_); rintro e w2q ⟨ybA2, ybc2, ybA5, ybc5, ybA6, ybc6, a1, a2, rfl, hO2, hO5, hO6, -, -, -, hb⟩; (have hz2q := hb.size); (try simp only [World.size_alloc, World.size_drew] at hz2q); (have hy2q := HB.out.size); (try simp only [World.size_alloc, World.size_drew] at hy2q); (replace Ya1 := Lib.hid (Ya1.out.below hb)); (replace Ya2 := Lib.hid (Ya2.out.below hb)); (replace Ya3 := Lib.hid (Ya3.out.below hb)); (replace Ya4 := Lib.hid (Ya4.out.below hb)); (have Yb2 := Lib.hid hO2.lies); (have Yb5 := Lib.hid hO5.lies); (have Yb6 := Lib.hid hO6.lies); (replace HB := Lib.hid (HB.out.trans (hb.mono HB.out.size))); clear hb hO2 hO5 hO6; (try (go_wp2_with fail)))
            refine hK.out _ _ ?_ (fun hH2 => ?_)
            · exact HS.out _ HB.out
            clear hK K hH1
            (try simp only [Act.put, List.setIfInBounds_toArray, List.set_cons_zero, List.set_cons_succ])
            refine wpAnyH_ready (rs := [4, 8]) (by kernel_rfl) (by simp) ?_
            refine AllReadyH.cons rfl (fun K hK => ?_) ?_
            · (go_simp; go_at_call 36; (with_reducible refine (CSP.out yaA1 yac1 yaA2 yac2 yaA3 yac3 yaA4 yac4 ybA2 ybc2 ybA5 ybc5 ybA6 ybc6 _ Ya1.out Ya2.out Ya3.out Ya4.out Yb2.out Yb5.out Yb6.out).mono ?_); rintro e w3q ⟨wA1, wc1, wA2, wc2, wA3, wc3, wA4, wc4, rfl, hV, hb⟩; (have hz3q := hb.size); (try simp only [World.size_alloc, World.size_drew] at hz3q); (have hy3q := HB.out.size); (try simp only [World.size_alloc, World.size_drew] at hy3q); (replace Ya1 := Lib.hid (Ya1.out.below hb)); (replace Ya2 := Lib.hid (Ya2.out.below hb)); (replace Ya3 := Lib.hid (Ya3.out.below hb)); (replace Ya4 := Lib.hid (Ya4.out.below hb)); (replace Yb2 := Lib.hid (Yb2.out.below hb)); (replace Yb5 := Lib.hid (Yb5.out.below hb)); (replace Yb6 := Lib.hid (Yb6.out.below hb)); (have HV9 := Lib.hid hV); (replace HB := Lib.hid (HB.out.trans (hb.mono HB.out.size))); clear hb hV; (try (go_wp2_with fail)))
              refine hK.out _ _ ?_ (fun hH3 => ?_)
              · exact HS.out _ HB.out
              clear hK K hH2
              (try simp only [Act.put, List.setIfInBounds_toArray, List.set_cons_zero, List.set_cons_succ])
              refine wpAnyH_take (i := 5) (v := ?_) rfl (by kernel_rfl) (by kernel_rfl) (by kernel_rfl) (fun _ _ _ h => h) (Or.inl ⟨by rfl, ?_⟩) hH3 ?_
              rotate_left
              · intro w hSw; (try dsimp only at hSw); go_simp; (try with_reducible rfl)
              simp only [Act.put, List.setIfInBounds_toArray, List.set_cons_zero, List.set_cons_succ]
              refine wpAnyH_take (i := 6) (v := ?_) rfl (by kernel_rfl) (by kernel_rfl) (by kernel_rfl) (fun _ _ _ h => h) (Or.inl ⟨by rfl, ?_⟩) hH3 ?_
              rotate_left
              · intro w hSw; (try dsimp only at hSw); go_simp; (try with_reducible rfl)
              simp only [Act.put, List.setIfInBounds_toArray, List.set_cons_zero, List.set_cons_succ]
              refine wpAnyH_take (i := 7) (v := ?_) rfl (by kernel_rfl) (by kernel_rfl) (by kernel_rfl) (fun _ _ _ h => h) (Or.inl ⟨by rfl, ?_⟩) hH3 ?_
              rotate_left
              · intro w hSw; (try dsimp only at hSw); go_simp; (try with_reducible rfl)
              simp only [Act.put, List.setIfInBounds_toArray, List.set_cons_zero, List.set_cons_succ]
              refine wpAnyH_ready (rs := [8]) (by kernel_rfl) (by simp) ?_
              refine AllReadyH.cons rfl (fun K hK => ?_) ?_
              · (go_simp; (have Z : Hid (Zx (w3q.heap.size) [.int .i64 0, .slice none 0 0, .slice none 0 0, .slice none 0 0, .slice none 0 0] (w3q.alloc (.cells #[.int .i64 0, .slice none 0 0, .slice none 0 0, .slice none 0 0, .slice none 0 0] 29))) := Lib.hid (by have h1 := Zx.new w3q #[.int .i64 0, .slice none 0 0, .slice none 0 0, .slice none 0 0, .slice none 0 0] 29; (try simp only [World.size_alloc, World.size_drew] at h1); exact h1)); (replace Ya1 := Lib.hid (Ya1.out.below ((Below.refl _ _).alloc (Nat.le_refl _) (.cells #[.int .i64 0, .slice none 0 0, .slice none 0 0, .slice none 0 0, .slice none 0 0] 29)))); (replace Ya2 := Lib.hid (Ya2.out.below ((Below.refl _ _).alloc (Nat.le_refl _) (.cells #[.int .i64 0, .slice none 0 0, .slice none 0 0, .slice none 0 0, .slice none 0 0] 29)))); (replace Ya3 := Lib.hid (Ya3.out.below ((Below.refl _ _).alloc (Nat.le_refl _) (.cells #[.int .i64 0, .slice none 0 0, .slice none 0 0, .slice none 0 0, .slice none 0 0] 29)))); (replace Ya4 := Lib.hid (Ya4.out.below ((Below.refl _ _).alloc (Nat.le_refl _) (.cells #[.int .i64 0, .slice none 0 0, .slice none 0 0, .slice none 0 0, .slice none 0 0] 29)))); (replace Yb2 := Lib.hid (Yb2.out.below ((Below.refl _ _).alloc (Nat.le_refl _) (.cells #[.int .i64 0, .slice none 0 0, .slice none 0 0, .slice none 0 0, .slice none 0 0] 29)))); (replace Yb5 := Lib.hid (Yb5.out.below ((Below.refl _ _).alloc (Nat.le_refl _) (.cells #[.int .i64 0, .slice none 0 0, .slice none 0 0, .slice none 0 0, .slice none 0 0] 29)))); (replace Yb6 := Lib.hid (Yb6.out.below ((Below.refl _ _).alloc (Nat.le_refl _) (.cells #[.int .i64 0, .slice none 0 0, .slice none 0 0, .slice none 0 0, .slice none 0 0] 29)))); (have HV9p := HV9); (replace HV9 := Lib.hid (HV9.out.below ((Below.refl _ _).alloc (Nat.le_refl _) (.cells #[.int .i64 0, .slice none 0 0, .slice none 0 0, .slice none 0 0, .slice none 0 0] 29)))); (have HBp := HB); (have hg0 : w2.heap.size ≤ w3q.heap.size := (by have h1 := HB.out.size; (try simp only [World.size_alloc, World.size_drew] at h1); (try simp only [World.size_alloc, World.size_drew]); first | exact h1 | omega)); (replace HB := Lib.hid (HB.out.alloc HB.out.size (.cells #[.int .i64 0, .slice none 0 0, .slice none 0 0, .slice none 0 0, .slice none 0 0] 29))); (obtain ⟨zq0, zq1, zq2, zq3, zq4, fq⟩ := Z.out.d5))
                refine hK.out _ _ ?_ (fun hH4 => ?_)
                · exact HS.out _ HB.out
                clear hK K hH3
                (try simp only [Act.put, List.setIfInBounds_toArray, List.set_cons_zero, List.set_cons_succ])
                refine wpAnyH_ready (rs := [9]) (by kernel_rfl) (by simp) ?_
                refine AllReadyH.cons rfl (fun K hK => ?_) ?_
                · go_simp
                  refine hK.out _ _ ?_ (fun hH5 => ?_)
                  · exact HS.out _ (HBp.out.alloc HBp.out.size _)
                  clear hK K hH4
                  (try simp only [Act.put, List.setIfInBounds_toArray, List.set_cons_zero, List.set_cons_succ])
                  refine wpAnyH_take (i := 10) (oi := { dst := some 7, op := Op.assign (Operand.tmp 34), type := _, pos := _, after := _, guard := _ }) (v := ?_) rfl (by kernel_rfl) (by kernel_rfl) (by kernel_rfl) (fun _ _ _ h => h) (Or.inl ⟨by rfl, ?_⟩) hH5 ?_
                  rotate_left
                  · intro w hSw; (try dsimp only at hSw); go_simp; (try with_reducible rfl)
                  simp only [Act.put, List.setIfInBounds_toArray, List.set_cons_zero, List.set_cons_succ]
                  refine wpAnyH_done (by kernel_rfl) ?_ _
                  go_wp2_with fail
                  go_meet
                  exact ⟨_, _, _, _, _, _, _, _, _, rfl, rfl, Zx.new _ #[.int .i64 f0, .slice wA1 m1 wc1, .slice wA2 n2 wc2, .slice wA3 n3 wc3, .slice wA4 n4 wc4] _, (HV9p.out.below ((Below.refl _ _).alloc (Nat.le_refl _) _)).mono (fun b hb => ⟨by have h1 := hb.1; (try simp only [World.size_alloc, World.size_drew] at h1); omega, by have h1 := hb.2; omega⟩), HBp.out.alloc HBp.out.size _⟩
                exact AllReadyH.nil
              exact AllReadyH.nil
            refine AllReadyH.cons rfl (fun K hK => ?_) ?_
            · (go_simp; (have Z : Hid (Zx (w2q.heap.size) [.int .i64 0, .slice none 0 0, .slice none 0 0, .slice none 0 0, .slice none 0 0] (w2q.alloc (.cells #[.int .i64 0, .slice none 0 0, .slice none 0 0, .slice none 0 0, .slice none 0 0] 29))) := Lib.hid (by have h1 := Zx.new w2q #[.int .i64 0, .slice none 0 0, .slice none 0 0, .slice none 0 0, .slice none 0 0] 29; (try simp only [World.size_alloc, World.size_drew] at h1); exact h1)); (replace Ya1 := Lib.hid (Ya1.out.below ((Below.refl _ _).alloc (Nat.le_refl _) (.cells #[.int .i64 0, .slice none 0 0, .slice none 0 0, .slice none 0 0, .slice none 0 0] 29)))); (replace Ya2 := Lib.hid (Ya2.out.below ((Below.refl _ _).alloc (Nat.le_refl _) (.cells #[.int .i64 0, .slice none 0 0, .slice none 0 0, .slice none 0 0, .slice none 0 0] 29)))); (replace Ya3 := Lib.hid (Ya3.out.below ((Below.refl _ _).alloc (Nat.le_refl _) (.cells #[.int .i64 0, .slice none 0 0, .slice none 0 0, .slice none 0 0, .slice none 0 0] 29)))); (replace Ya4 := Lib.hid (Ya4.out.below ((Below.refl _ _).alloc (Nat.le_refl _) (.cells #[.int .i64 0, .slice none 0 0, .slice none 0 0, .slice none 0 0, .slice none 0 0] 29)))); (replace Yb2 := Lib.hid (Yb2.out.below ((Below.refl _ _).alloc (Nat.le_refl _) (.cells #[.int .i64 0, .slice none 0 0, .slice none 0 0, .slice none 0 0, .slice none 0 0] 29)))); (replace Yb5 := Lib.hid (Yb5.out.below ((Below.refl _ _).alloc (Nat.le_refl _) (.cells #[.int .i64 0, .slice none 0 0, .slice none 0 0, .slice none 0 0, .slice none 0 0] 29)))); (replace Yb6 := Lib.hid (Yb6.out.below ((Below.refl _ _).alloc (Nat.le_refl _) (.cells #[.int .i64 0, .slice none 0 0, .slice none 0 0, .slice none 0 0, .slice none 0 0] 29)))); (have HBp := HB); (have hg0 : w2.heap.size ≤ w2q.heap.size := (by have h1 := HB.out.size; (try simp only [World.size_alloc, World.size_drew] at h1); (try simp only [World.size_alloc, World.size_drew]); first | exact h1 | omega)); (replace HB := Lib.hid (HB.out.alloc HB.out.size (.cells #[.int .i64 0, .slice none 0 0, .slice none 0 0, .slice none 0 0, .slice none 0 0] 29))); (obtain ⟨zq0, zq1, zq2, zq3, zq4, fq⟩ := Z.out.d5))
              refine hK.out _ _ ?_ (fun hH6 => ?_)
              · exact HS.out _ HB.out
              clear hK K hH2
              (try simp only [Act.put, List.setIfInBounds_toArray, List.set_cons_zero, List.set_cons_succ])
              refine wpAnyH_ready (rs := [4]) (by kernel_rfl) (by simp) ?_
              refine AllReadyH.cons rfl (fun K hK => ?_) ?_
              · (go_simp; go_at_call 36; (with_reducible refine (CSP.out yaA1 yac1 yaA2 yac2 yaA3 yac3 yaA4 yac4 ybA2 ybc2 ybA5 ybc5 ybA6 ybc6 _ Ya1.out Ya2.out Ya3.out Ya4.out Yb2.out Yb5.out Yb6.out).mono ?_); rintro e w3q ⟨wA1, wc1, wA2, wc2, wA3, wc3, wA4, wc4, rfl, hV, hb⟩; (have hz3q := hb.size); (try simp only [World.size_alloc, World.size_drew] at hz3q); (have hy3q := HB.out.size); (try simp only [World.size_alloc, World.size_drew] at hy3q); (replace Ya1 := Lib.hid (Ya1.out.below hb)); (replace Ya2 := Lib.hid (Ya2.out.below hb)); (replace Ya3 := Lib.hid (Ya3.out.below hb)); (replace Ya4 := Lib.hid (Ya4.out.below hb)); (replace Yb2 := Lib.hid (Yb2.out.below hb)); (replace Yb5 := Lib.hid (Yb5.out.below hb)); (replace Yb6 := Lib.hid (Yb6.out.below hb)); (have HV9 := Lib.hid hV); (have hgl := Z.out.lt); (try simp only [World.size_alloc, World.size_drew] at hgl); (replace HB := Lib.hid (HB.out.trans (hb.mono HB.out.size))); (replace Z := Lib.hid (Z.out.below hb)); (obtain ⟨zq0, zq1, zq2, zq3, zq4, fq⟩ := Z.out.d5); clear hb hV; (try (go_wp2_with fail)))
                refine hK.out _ _ ?_ (fun hH7 => ?_)
                · exact HS.out _ HB.out
                clear hK K hH6
                (try simp only [Act.put, List.setIfInBounds_toArray, List.set_cons_zero, List.set_cons_succ])
                refine wpAnyH_take (i := 5) (v := ?_) rfl (by kernel_rfl) (by kernel_rfl) (by kernel_rfl) (fun _ _ _ h => h) (Or.inl ⟨by rfl, ?_⟩) hH7 ?_
                rotate_left
                · intro w hSw; (try dsimp only at hSw); go_simp; (try with_reducible rfl)
                simp only [Act.put, List.setIfInBounds_toArray, List.set_cons_zero, List.set_cons_succ]
                refine wpAnyH_take (i := 6) (v := ?_) rfl (by kernel_rfl) (by kernel_rfl) (by kernel_rfl) (fun _ _ _ h => h) (Or.inl ⟨by rfl, ?_⟩) hH7 ?_
                rotate_left
                · intro w hSw; (try dsimp only at hSw); go_simp; (try with_reducible rfl)
                simp only [Act.put, List.setIfInBounds_toArray, List.set_cons_zero, List.set_cons_succ]
                refine wpAnyH_take (i := 7) (v := ?_) rfl (by kernel_rfl) (by kernel_rfl) (by kernel_rfl) (fun _ _ _ h => h) (Or.inl ⟨by rfl, ?_⟩) hH7 ?_
                rotate_left
                · intro w hSw; (try dsimp only at hSw); go_simp; (try with_reducible rfl)
                simp only [Act.put, List.setIfInBounds_toArray, List.set_cons_zero, List.set_cons_succ]
                refine wpAnyH_ready (rs := [9]) (by kernel_rfl) (by simp) ?_
                refine AllReadyH.cons rfl (fun K hK => ?_) ?_
                · go_simp
                  refine hK.out _ _ ?_ (fun hH8 => ?_)
                  · exact HS.out _ (((((HB.out.setCell (p := ⟨_, 0, none⟩) hg0 _).setCell (p := ⟨_, 1, none⟩) hg0 _).setCell (p := ⟨_, 2, none⟩) hg0 _).setCell (p := ⟨_, 3, none⟩) hg0 _).setCell (p := ⟨_, 4, none⟩) hg0 _)
                  clear hK K hH7
                  (try simp only [Act.put, List.setIfInBounds_toArray, List.set_cons_zero, List.set_cons_succ])
                  refine wpAnyH_take (i := 10) (oi := { dst := some 7, op := Op.assign (Operand.tmp 34), type := _, pos := _, after := _, guard := _ }) (v := ?_) rfl (by kernel_rfl) (by kernel_rfl) (by kernel_rfl) (fun _ _ _ h => h) (Or.inl ⟨by rfl, ?_⟩) hH8 ?_
                  rotate_left
                  · intro w hSw; (try dsimp only at hSw); go_simp; (try with_reducible rfl)
                  simp only [Act.put, List.setIfInBounds_toArray, List.set_cons_zero, List.set_cons_succ]
                  refine wpAnyH_done (by kernel_rfl) ?_ _
                  go_wp2_with fail
                  go_meet
                  exact ⟨_, _, _, _, _, _, _, _, _, rfl, rfl, (((((Z.out.put 0 _).put 1 _).put 2 _).put 3 _).put 4 _), (HV9.out.touch ((((((Touch.refl (fun b => b = _) _).setCell (p := ⟨_, 0, none⟩) rfl _).setCell (p := ⟨_, 1, none⟩) rfl _).setCell (p := ⟨_, 2, none⟩) rfl _).setCell (p := ⟨_, 3, none⟩) rfl _).setCell (p := ⟨_, 4, none⟩) rfl _) (fun b hb e => by have h1 := hb.1; (try dsimp only at e); (try simp only [World.size_alloc, World.size_drew] at h1); omega)).mono (fun b hb => ⟨by have h1 := hb.1; (try simp only [World.size_alloc, World.size_drew] at h1); omega, by have h1 := hb.1; (try simp only [World.size_alloc, World.size_drew] at h1); omega⟩), (((((HB.out.setCell (p := ⟨_, 0, none⟩) hg0 _).setCell (p := ⟨_, 1, none⟩) hg0 _).setCell (p := ⟨_, 2, none⟩) hg0 _).setCell (p := ⟨_, 3, none⟩) hg0 _).setCell (p := ⟨_, 4, none⟩) hg0 _)⟩
                exact AllReadyH.nil
              exact AllReadyH.nil
            exact AllReadyH.nil
          refine AllReadyH.cons rfl (fun K hK => ?_) ?_
          · (go_simp; (have Z : Hid (Zx (w1q.heap.size) [.int .i64 0, .slice none 0 0, .slice none 0 0, .slice none 0 0, .slice none 0 0] (w1q.alloc (.cells #[.int .i64 0, .slice none 0 0, .slice none 0 0, .slice none 0 0, .slice none 0 0] 29))) := Lib.hid (by have h1 := Zx.new w1q #[.int .i64 0, .slice none 0 0, .slice none 0 0, .slice none 0 0, .slice none 0 0] 29; (try simp only [World.size_alloc, World.size_drew] at h1); exact h1)); (replace Ya1 := Lib.hid (Ya1.out.below ((Below.refl _ _).alloc (Nat.le_refl _) (.cells #[.int .i64 0, .slice none 0 0, .slice none 0 0, .slice none 0 0, .slice none 0 0] 29)))); (replace Ya2 := Lib.hid (Ya2.out.below ((Below.refl _ _).alloc (Nat.le_refl _) (.cells #[.int .i64 0, .slice none 0 0, .slice none 0 0, .slice none 0 0, .slice none 0 0] 29)))); (replace Ya3 := Lib.hid (Ya3.out.below ((Below.refl _ _).alloc (Nat.le_refl _) (.cells #[.int .i64 0, .slice none 0 0, .slice none 0 0, .slice none 0 0, .slice none 0 0] 29)))); (replace Ya4 := Lib.hid (Ya4.out.below ((Below.refl _ _).alloc (Nat.le_refl _) (.cells #[.int .i64 0, .slice none 0 0, .slice none 0 0, .slice none 0 0, .slice none 0 0] 29)))); (have HBp := HB); (have hg0 : w2.heap.size ≤ w1q.heap.size := (by have h1 := HB.out.size; (try simp only [World.size_alloc, World.size_drew] at h1); (try simp only [World.size_alloc, World.size_drew]); first | exact h1 | omega)); (replace HB := Lib.hid (HB.out.alloc HB.out.size (.cells #[.int .i64 0, .slice none 0 0, .slice none 0 0, .slice none 0 0, .slice none 0 0] 29))); (obtain ⟨zq0, zq1, zq2, zq3, zq4, fq⟩ := Z.out.d5))
            refine hK.out _ _ ?_ (fun hH9 => ?_)
            · exact HS.out _ HB.out
            clear hK K hH1
            (try simp only [Act.put, List.setIfInBounds_toArray, List.set_cons_zero, List.set_cons_succ])
            refine wpAnyH_ready (rs := [3]) (by kernel_rfl) (by simp) ?_
            refine AllReadyH.cons rfl (fun K hK => ?_) ?_
            · (go_simp; go_at_call 37; (with_reducible refine (toEntity g0 g1 M2 D2 m2 j2 g3 g4_0 g4_1 M5 D5 m5 j5 M6 D6 m6 j6 g7 g8 g9 g10 _ (Jb2.out.below HB.out) hf2 hqb2 (Jb5.out.below HB.out) hf5 hqb5 (Jb6.out.below HB.out) hf6 hqb6).mono ?_); rintro e w2q ⟨ybA2, ybc2, ybA5, ybc5, ybA6, ybc6, a1, a2, rfl, hO2, hO5, hO6, -, -, -, hb⟩; (have hz2q := hb.size); (try simp only [World.size_alloc, World.size_drew] at hz2q); (have hy2q := HB.out.size); (try simp only [World.size_alloc, World.size_drew] at hy2q); (replace Ya1 := Lib.hid (Ya1.out.below hb)); (replace Ya2 := Lib.hid (Ya2.out.below hb)); (replace Ya3 := Lib.hid (Ya3.out.below hb)); (replace Ya4 := Lib.hid (Ya4.out.below hb)); (have Yb2 := Lib.hid hO2.lies); (have Yb5 := Lib.hid hO5.lies); (have Yb6 := Lib.hid hO6.lies); (replace HB := Lib.hid (HB.out.trans (hb.mono HB.out.size))); (replace Z := Lib.hid (Z.out.below hb)); (obtain ⟨zq0, zq1, zq2, zq3, zq4, fq⟩ := Z.out.d5); clear hb hO2 hO5 hO6; (try (go_wp2_with fail)))
              refine hK.out _ _ ?_ (fun hH10 => ?_)
              · exact HS.out _ HB.out
              clear hK K hH9
              (try simp only [Act.put, List.setIfInBounds_toArray, List.set_cons_zero, List.set_cons_succ])
              refine wpAnyH_ready (rs := [4]) (by kernel_rfl) (by simp) ?_
              refine AllReadyH.cons rfl (fun K hK => ?_) ?_
              · (go_simp; go_at_call 36; (with_reducible refine (CSP.out yaA1 yac1 yaA2 yac2 yaA3 yac3 yaA4 yac4 ybA2 ybc2 ybA5 ybc5 ybA6 ybc6 _ Ya1.out Ya2.out Ya3.out Ya4.out Yb2.out Yb5.out Yb6.out).mono ?_); rintro e w3q ⟨wA1, wc1, wA2, wc2, wA3, wc3, wA4, wc4, rfl, hV, hb⟩; (have hz3q := hb.size); (try simp only [World.size_alloc, World.size_drew] at hz3q); (have hy3q := HB.out.size); (try simp only [World.size_alloc, World.size_drew] at hy3q); (replace Ya1 := Lib.hid (Ya1.out.below hb)); (replace Ya2 := Lib.hid (Ya2.out.below hb)); (replace Ya3 := Lib.hid (Ya3.out.below hb)); (replace Ya4 := Lib.hid (Ya4.out.below hb)); (replace Yb2 := Lib.hid (Yb2.out.below hb)); (replace Yb5 := Lib.hid (Yb5.out.below hb)); (replace Yb6 := Lib.hid (Yb6.out.below hb)); (have HV9 := Lib.hid hV); (have hgl := Z.out.lt); (try simp only [World.size_alloc, World.size_drew] at hgl); (replace HB := Lib.hid (HB.out.trans (hb.mono HB.out.size))); (replace Z := Lib.hid (Z.out.below hb)); (obtain ⟨zq0, zq1, zq2, zq3, zq4, fq⟩ := Z.out.d5); clear hb hV; (try (go_wp2_with fail)))
                refine hK.out _ _ ?_ (fun hH11 => ?_)
                · exact HS.out _ HB.out
                clear hK K hH10
                (try simp only [Act.put, List.setIfInBounds_toArray, List.set_cons_zero, List.set_cons_succ])
                refine wpAnyH_take (i := 5) (v := ?_) rfl (by kernel_rfl) (by kernel_rfl) (by kernel_rfl) (fun _ _ _ h => h) (Or.inl ⟨by rfl, ?_⟩) hH11 ?_
                rotate_left
                · intro w hSw; (try dsimp only at hSw); go_simp; (try with_reducible rfl)
                simp only [Act.put, List.setIfInBounds_toArray, List.set_cons_zero, List.set_cons_succ]
                refine wpAnyH_take (i := 6) (v := ?_) rfl (by kernel_rfl) (by kernel_rfl) (by kernel_rfl) (fun _ _ _ h => h) (Or.inl ⟨by rfl, ?_⟩) hH11 ?_
                rotate_left
                · intro w hSw; (try dsimp only at hSw); go_simp; (try with_reducible rfl)
                simp only [Act.put, List.setIfInBounds_toArray, List.set_cons_zero, List.set_cons_succ]
                refine wpAnyH_take (i := 7) (v := ?_) rfl (by kernel_rfl) (by kernel_rfl) (by kernel_rfl) (fun _ _ _ h => h) (Or.inl ⟨by rfl, ?_⟩) hH11 ?_
                rotate_left
                · intro w hSw; (try dsimp only at hSw); go_simp; (try with_reducible rfl)
                simp only [Act.put, List.setIfInBounds_toArray, List.set_cons_zero, List.set_cons_succ]
                refine wpAnyH_ready (rs := [9]) (by kernel_rfl) (by simp) ?_
                refine AllReadyH.cons rfl (fun K hK => ?_) ?_
                · go_simp
                  refine hK.out _ _ ?_ (fun hH12 => ?_)
                  · exact HS.out _ (((((HB.out.setCell (p := ⟨_, 0, none⟩) hg0 _).setCell (p := ⟨_, 1, none⟩) hg0 _).setCell (p := ⟨_, 2, none⟩) hg0 _).setCell (p := ⟨_, 3, none⟩) hg0 _).setCell (p := ⟨_, 4, none⟩) hg0 _)
                  clear hK K hH11
                  (try simp only [Act.put, List.setIfInBounds_toArray, List.set_cons_zero, List.set_cons_succ])
                  refine wpAnyH_take (i := 10) (oi := { dst := some 7, op := Op.assign (Operand.tmp 34), type := _, pos := _, after := _, guard := _ }) (v := ?_) rfl (by kernel_rfl) (by kernel_rfl) (by kernel_rfl) (fun _ _ _ h => h) (Or.inl ⟨by rfl, ?_⟩) hH12 ?_
                  rotate_left
                  · intro w hSw; (try dsimp only at hSw); go_simp; (try with_reducible rfl)
                  simp only [Act.put, List.setIfInBounds_toArray, List.set_cons_zero, List.set_cons_succ]
                  refine wpAnyH_done (by kernel_rfl) ?_ _
                  go_wp2_with fail
                  go_meet
                  exact ⟨_, _, _, _, _, _, _, _, _, rfl, rfl, (((((Z.out.put 0 _).put 1 _).put 2 _).put 3 _).put 4 _), (HV9.out.touch ((((((Touch.refl (fun b => b = _) _).setCell (p := ⟨_, 0, none⟩) rfl _).setCell (p := ⟨_, 1, none⟩) rfl _).setCell (p := ⟨_, 2, none⟩) rfl _).setCell (p := ⟨_, 3, none⟩) rfl _).setCell (p := ⟨_, 4, none⟩) rfl _) (fun b hb e => by have h1 := hb.1; (try dsimp only at e); (try simp only [World.size_alloc, World.size_drew] at h1); omega)).mono (fun b hb => ⟨by have h1 := hb.1; (try simp only [World.size_alloc, World.size_drew] at h1); omega, by have h1 := hb.1; (try simp only [World.size_alloc, World.size_drew] at h1); omega⟩), (((((HB.out.setCell (p := ⟨_, 0, none⟩) hg0 _).setCell (p := ⟨_, 1, none⟩) hg0 _).setCell (p := ⟨_, 2, none⟩) hg0 _).setCell (p := ⟨_, 3, none⟩) hg0 _).setCell (p := ⟨_, 4, none⟩) hg0 _)⟩
                exact AllReadyH.nil
              exact AllReadyH.nil
            exact AllReadyH.nil
          exact AllReadyH.nil
        refine AllReadyH.cons rfl (fun K hK => ?_) ?_
        · (go_simp; (have Z : Hid (Zx (w2.heap.size) [.int .i64 0, .slice none 0 0, .slice none 0 0, .slice none 0 0, .slice none 0 0] ((w2.alloc (.cells #[.int .i64 0, .slice none 0 0, .slice none 0 0, .slice none 0 0, .slice none 0 0] 29)).drew)) := Lib.hid (by have h1 := (Zx.new w2 #[.int .i64 0, .slice none 0 0, .slice none 0 0, .slice none 0 0, .slice none 0 0] 29).below (Below.refl _ _).drew; (try simp only [World.size_alloc, World.size_drew] at h1); exact h1)); (have HBp := HB); (have hg0 : w2.heap.size ≤ w2.heap.size := (by (try simp only [World.size_alloc, World.size_drew]); omega)); (replace HB := Lib.hid ((Below.refl w2.heap.size w2).alloc (Nat.le_refl _) (.cells #[.int .i64 0, .slice none 0 0, .slice none 0 0, .slice none 0 0, .slice none 0 0] 29)).drew); (obtain ⟨zq0, zq1, zq2, zq3, zq4, fq⟩ := Z.out.d5))
          refine hK.out _ _ ?_ (fun hH13 => ?_)
          · exact HS.out _ HB.out
          clear hK K hH0
          (try simp only [Act.put, List.setIfInBounds_toArray, List.set_cons_zero, List.set_cons_succ])
          refine wpAnyH_ready (rs := [1]) (by kernel_rfl) (by simp) ?_
          refine AllReadyH.cons rfl (fun K hK => ?_) ?_
          · (go_simp; go_at_call 30; (with_reducible refine (toVat f0 L1 A1 n1 c1 L2 A2 n2 c2 L3 A3 n3 c3 L4 A4 n4 c4 _ (Ja1.out.below HB.out) ht1 hqa1 (Ja2.out.below HB.out) ht2 hqa2 (Ja3.out.below HB.out) ht3 hqa3 (Ja4.out.below HB.out) ht4 hqa4).mono ?_); rintro e w1q ⟨yaA1, yac1, yaA2, yac2, yaA3, yac3, yaA4, yac4, a1, a2, a3, rfl, hO1, hO2, hO3, hO4, -, -, -, -, hb⟩; (have hz1q := hb.size); (try simp only [World.size_alloc, World.size_drew] at hz1q); (have hy1q := HB.out.size); (try simp only [World.size_alloc, World.size_drew] at hy1q); (have Ya1 := Lib.hid hO1.lies); (have Ya2 := Lib.hid hO2.lies); (have Ya3 := Lib.hid hO3.lies); (have Ya4 := Lib.hid hO4.lies); (replace HB := Lib.hid (HB.out.trans (hb.mono HB.out.size))); (replace Z := Lib.hid (Z.out.below hb)); (obtain ⟨zq0, zq1, zq2, zq3, zq4, fq⟩ := Z.out.d5); clear hb hO1 hO2 hO3 hO4; (try (go_wp2_with fail)))
            refine hK.out _ _ ?_ (fun hH14 => ?_)
            · exact HS.out _ HB.out
            clear hK K hH13
            (try simp only [Act.put, List.setIfInBounds_toArray, List.set_cons_zero, List.set_cons_succ])
            refine wpAnyH_ready (rs := [3]) (by kernel_rfl) (by simp) ?_
            refine AllReadyH.cons rfl (fun K hK => ?_) ?_
            · (go_simp; go_at_call 37; (with_reducible refine (toEntity g0 g1 M2 D2 m2 j2 g3 g4_0 g4_1 M5 D5 m5 j5 M6 D6 m6 j6 g7 g8 g9 g10 _ (Jb2.out.below HB.out) hf2 hqb2 (Jb5.out.below HB.out) hf5 hqb5 (Jb6.out.below HB.out) hf6 hqb6).mono ?_); rintro e w2q ⟨ybA2, ybc2, ybA5, ybc5, ybA6, ybc6, a1, a2, rfl, hO2, hO5, hO6, -, -, -, hb⟩; (have hz2q := hb.size); (try simp only [World.size_alloc, World.size_drew] at hz2q); (have hy2q := HB.out.size); (try simp only [World.size_alloc, World.size_drew] at hy2q); (replace Ya1 := Lib.hid (Ya1.out.below hb)); (replace Ya2 := Lib.hid (Ya2.out.below hb)); (replace Ya3 := Lib.hid (Ya3.out.below hb)); (replace Ya4 := Lib.hid (Ya4.out.below hb)); (have Yb2 := Lib.hid hO2.lies); (have Yb5 := Lib.hid hO5.lies); (have Yb6 := Lib.hid hO6.lies); (replace HB := Lib.hid (HB.out.trans (hb.mono HB.out.size))); (replace Z := Lib.hid (Z.out.below hb)); (obtain ⟨zq0, zq1, zq2, zq3, zq4, fq⟩ := Z.out.d5); clear hb hO2 hO5 hO6; (try (go_wp2_with fail)))
              refine hK.out _ _ ?_ (fun hH15 => ?_)
              · exact HS.out _ HB.out
              clear hK K hH14
              (try simp only [Act.put, List.setIfInBounds_toArray, List.set_cons_zero, List.set_cons_succ])
              refine wpAnyH_ready (rs := [4]) (by kernel_rfl) (by simp) ?_
              refine AllReadyH.cons rfl (fun K hK => ?_) ?_
              · (go_simp; go_at_call 36; (with_reducible refine (CSP.out yaA1 yac1 yaA2 yac2 yaA3 yac3 yaA4 yac4 ybA2 ybc2 ybA5 ybc5 ybA6 ybc6 _ Ya1.out Ya2.out Ya3.out Ya4.out Yb2.out Yb5.out Yb6.out).mono ?_); rintro e w3q ⟨wA1, wc1, wA2, wc2, wA3, wc3, wA4, wc4, rfl, hV, hb⟩; (have hz3q := hb.size); (try simp only [World.size_alloc, World.size_drew] at hz3q); (have hy3q := HB.out.size); (try simp only [World.size_alloc, World.size_drew] at hy3q); (replace Ya1 := Lib.hid (Ya1.out.below hb)); (replace Ya2 := Lib.hid (Ya2.out.below hb)); (replace Ya3 := Lib.hid (Ya3.out.below hb)); (replace Ya4 := Lib.hid (Ya4.out.below hb)); (replace Yb2 := Lib.hid (Yb2.out.below hb)); (replace Yb5 := Lib.hid (Yb5.out.below hb)); (replace Yb6 := Lib.hid (Yb6.out.below hb)); (have HV9 := Lib.hid hV); (have hgl := Z.out.lt); (try simp only [World.size_alloc, World.size_drew] at hgl); (replace HB := Lib.hid (HB.out.trans (hb.mono HB.out.size))); (replace Z := Lib.hid (Z.out.below hb)); (obtain ⟨zq0, zq1, zq2, zq3, zq4, fq⟩ := Z.out.d5); clear hb hV; (try (go_wp2_with fail)))
                refine hK.out _ _ ?_ (fun hH16 => ?_)
                · exact HS.out _ HB.out
                clear hK K hH15
                (try simp only [Act.put, List.setIfInBounds_toArray, List.set_cons_zero, List.set_cons_succ])
                refine wpAnyH_take (i := 5) (v := ?_) rfl (by kernel_rfl) (by kernel_rfl) (by kernel_rfl) (fun _ _ _ h => h) (Or.inl ⟨by rfl, ?_⟩) hH16 ?_
                rotate_left
                · intro w hSw; (try dsimp only at hSw); go_simp; (try with_reducible rfl)
                simp only [Act.put, List.setIfInBounds_toArray, List.set_cons_zero, List.set_cons_succ]
                refine wpAnyH_take (i := 6) (v := ?_) rfl (by kernel_rfl) (by kernel_rfl) (by kernel_rfl) (fun _ _ _ h => h) (Or.inl ⟨by rfl, ?_⟩) hH16 ?_
                rotate_left
                · intro w hSw; (try dsimp only at hSw); go_simp; (try with_reducible rfl)
                simp only [Act.put, List.setIfInBounds_toArray, List.set_cons_zero, List.set_cons_succ]
                refine wpAnyH_take (i := 7) (v := ?_) rfl (by kernel_rfl) (by kernel_rfl) (by kernel_rfl) (fun _ _ _ h => h) (Or.inl ⟨by rfl, ?_⟩) hH16 ?_
                rotate_left
                · intro w hSw; (try dsimp only at hSw); go_simp; (try with_reducible rfl)
                simp only [Act.put, List.setIfInBounds_toArray, List.set_cons_zero, List.set_cons_succ]
                refine wpAnyH_ready (rs := [9]) (by kernel_rfl) (by simp) ?_
                refine AllReadyH.cons rfl (fun K hK => ?_) ?_
                · go_simp
                  refine hK.out _ _ ?_ (fun hH17 => ?_)
                  · exact HS.out _ (((((HB.out.setCell (p := ⟨_, 0, none⟩) hg0 _).setCell (p := ⟨_, 1, none⟩) hg0 _).setCell (p := ⟨_, 2, none⟩) hg0 _).setCell (p := ⟨_, 3, none⟩) hg0 _).setCell (p := ⟨_, 4, none⟩) hg0 _)
                  clear hK K hH16
                  (try simp only [Act.put, List.setIfInBounds_toArray, List.set_cons_zero, List.set_cons_succ])
                  refine wpAnyH_take (i := 10) (oi := { dst := some 7, op := Op.assign (Operand.tmp 34), type := _, pos := _, after := _, guard := _ }) (v := ?_) rfl (by kernel_rfl) (by kernel_rfl) (by kernel_rfl) (fun _ _ _ h => h) (Or.inl ⟨by rfl, ?_⟩) hH17 ?_
                  rotate_left
                  · intro w hSw; (try dsimp only at hSw); go_simp; (try with_reducible rfl)
                  simp only [Act.put, List.setIfInBounds_toArray, List.set_cons_zero, List.set_cons_succ]
                  refine wpAnyH_done (by kernel_rfl) ?_ _
                  go_wp2_with fail
                  go_meet
                  exact ⟨_, _, _, _, _, _, _, _, _, rfl, rfl, (((((Z.out.put 0 _).put 1 _).put 2 _).put 3 _).put 4 _), (HV9.out.touch ((((((Touch.refl (fun b => b = _) _).setCell (p := ⟨_, 0, none⟩) rfl _).setCell (p := ⟨_, 1, none⟩) rfl _).setCell (p := ⟨_, 2, none⟩) rfl _).setCell (p := ⟨_, 3, none⟩) rfl _).setCell (p := ⟨_, 4, none⟩) rfl _) (fun b hb e => by have h1 := hb.1; (try dsimp only at e); (try simp only [World.size_alloc, World.size_drew] at h1); omega)).mono (fun b hb => ⟨by have h1 := hb.1; (try simp only [World.size_alloc, World.size_drew] at h1); omega, by have h1 := hb.1; (try simp only [World.size_alloc, World.size_drew] at h1); omega⟩), (((((HB.out.setCell (p := ⟨_, 0, none⟩) hg0 _).setCell (p := ⟨_, 1, none⟩) hg0 _).setCell (p := ⟨_, 2, none⟩) hg0 _).setCell (p := ⟨_, 3, none⟩) hg0 _).setCell (p := ⟨_, 4, none⟩) hg0 _)⟩
                exact AllReadyH.nil
              exact AllReadyH.nil
            exact AllReadyH.nil
          exact AllReadyH.nil
        exact AllReadyH.nil
      case rest =>
        rename World => w3
        obtain ⟨gw, wA1, wc1, wA2, wc2, wA3, wc3, wA4, wc4, rfl, rfl, hZ, hV, hb⟩ := hcut
        clear HS
        replace Ba : Hid (Box (W.heap.size) [.int .i64 f0, .slice A1 n1 c1, .slice A2 n2 c2, .slice A3 n3 c3, .slice A4 n4 c4] w3) := Lib.hid (Ba.out.below hb)
        replace Bb : Hid (Box (W.heap.size + 1) [.int .i64 g0, .int .i64 g1, .slice D2 m2 j2, .int .i64 g3, .int .i64 g4_0, .int .i64 g4_1, .slice D5 m5 j5, .slice D6 m6 j6, .int .i64 g7, .int .i64 g8, .int .i64 g9, .int .i64 g10] w3) := Lib.hid (Bb.out.below hb)
        replace HT : Hid (Below W.heap.size W w3) := Lib.hid (HT.out.trans (hb.mono HT.out.size))
        have hsw3 : w2.heap.size ≤ w3.heap.size := (by have h1 := hb.size; (try simp only [World.size_alloc, World.size_drew] at h1); exact h1)
        have hzw : gw < w3.heap.size := hZ.lt
        have Bw : Hid (Box (gw) [.int .i64 f0, .slice wA1 m1 wc1, .slice wA2 n2 wc2, .slice wA3 n3 wc3, .slice wA4 n4 wc4] w3) := Lib.hid hZ.1
        have Hw : Hid (Owns w3 (.r [.i f0, .l N1, .l L2, .l L3, .l L4]) [.int .i64 f0, .slice wA1 m1 wc1, .slice wA2 n2 wc2, .slice wA3 n3 wc3, .slice wA4 n4 wc4] (fun b => (w2.heap.size ≤ b ∧ b ≠ gw) ∧ b < w3.heap.size)) := Lib.hid hV.cut.owns
        clear hZ hV hb
        obtain ⟨za0, za1, za2, za3, za4⟩ := Ba.out.c5
        go_wp2_with fail
        refine (toVat f0 L1 A1 n1 c1 L2 A2 n2 c2 L3 A3 n3 c3 L4 A4 n4 c4 _ (Za1.out.below HT.out) ht1 hqa1 (Za2.out.below HT.out) ht2 hqa2 (Za3.out.below HT.out) ht3 hqa3 (Za4.out.below HT.out) ht4 hqa4).mono ?_
        rintro e w4 ⟨xA1, xc1, xA2, xc2, xA3, xc3, xA4, xc4, a1, a2, a3, rfl, hO1, hO2, hO3, hO4, ha0, ha1, ha2, ha3, hb⟩
        clear za0 za1 za2 za3 za4
        replace Hw : Hid (Owns w4 (.r [.i f0, .l N1, .l L2, .l L3, .l L4]) [.int .i64 f0, .slice wA1 m1 wc1, .slice wA2 n2 wc2, .slice wA3 n3 wc3, .slice wA4 n4 wc4] (fun b => (w2.heap.size ≤ b ∧ b ≠ gw) ∧ b < w3.heap.size)) := Lib.hid (Hw.out.below hb)
        replace Ba : Hid (Box (W.heap.size) [.int .i64 f0, .slice A1 n1 c1, .slice A2 n2 c2, .slice A3 n3 c3, .slice A4 n4 c4] w4) := Lib.hid (Ba.out.below hb)
        replace Bb : Hid (Box (W.heap.size + 1) [.int .i64 g0, .int .i64 g1, .slice D2 m2 j2, .int .i64 g3, .int .i64 g4_0, .int .i64 g4_1, .slice D5 m5 j5, .slice D6 m6 j6, .int .i64 g7, .int .i64 g8, .int .i64 g9, .int .i64 g10] w4) := Lib.hid (Bb.out.below hb)
        replace Bw : Hid (Box (gw) [.int .i64 f0, .slice wA1 m1 wc1, .slice wA2 n2 wc2, .slice wA3 n3 wc3, .slice wA4 n4 wc4] w4) := Lib.hid (Bw.out.below hb)
        replace HT : Hid (Below W.heap.size W w4) := Lib.hid (HT.out.trans (hb.mono HT.out.size))
        have hsw4 : w3.heap.size ≤ w4.heap.size := (by have h1 := hb.size; (try simp only [World.size_alloc, World.size_drew] at h1); exact h1)
        have Hx : Hid (Owns w4 (.r [.i f0, .l L1, .l L2, .l L3, .l L4]) [.int .i64 f0, .slice xA1 n1 xc1, .slice xA2 n2 xc2, .slice xA3 n3 xc3, .slice xA4 n4 xc4] (rng (w3.heap.size) (w4.heap.size))) := Lib.hid (by refine Owns.mono (fun b hb => ?_) (ownVat hO1 hO2 hO3 hO4 ha0 ha1 ha2 ha3); have h1 := hb.1; have h2 := hb.2; (try simp only [World.size_alloc, World.size_drew] at h1 h2); exact ⟨by omega, by omega⟩)
        clear hO1 hO2 hO3 hO4 ha0 ha1 ha2 ha3 hb
        have hb : Below w4.heap.size w4 (w4.alloc (.cells #[.int .i64 f0, .slice xA1 n1 xc1, .slice xA2 n2 xc2, .slice xA3 n3 xc3, .slice xA4 n4 xc4] 29)) := (Below.refl _ _).alloc (Nat.le_refl _) _
        replace Hw : Hid (Owns (w4.alloc (.cells #[.int .i64 f0, .slice xA1 n1 xc1, .slice xA2 n2 xc2, .slice xA3 n3 xc3, .slice xA4 n4 xc4] 29)) (.r [.i f0, .l N1, .l L2, .l L3, .l L4]) [.int .i64 f0, .slice wA1 m1 wc1, .slice wA2 n2 wc2, .slice wA3 n3 wc3, .slice wA4 n4 wc4] (fun b => (w2.heap.size ≤ b ∧ b ≠ gw) ∧ b < w3.heap.size)) := Lib.hid (Hw.out.below hb)
        replace Hx : Hid (Owns (w4.alloc (.cells #[.int .i64 f0, .slice xA1 n1 xc1, .slice xA2 n2 xc2, .slice xA3 n3 xc3, .slice xA4 n4 xc4] 29)) (.r [.i f0, .l L1, .l L2, .l L3, .l L4]) [.int .i64 f0, .slice xA1 n1 xc1, .slice xA2 n2 xc2, .slice xA3 n3 xc3, .slice xA4 n4 xc4] (rng (w3.heap.size) (w4.heap.size))) := Lib.hid (Hx.out.below hb)
        replace Ba : Hid (Box (W.heap.size) [.int .i64 f0, .slice A1 n1 c1, .slice A2 n2 c2, .slice A3 n3 c3, .slice A4 n4 c4] (w4.alloc (.cells #[.int .i64 f0, .slice xA1 n1 xc1, .slice xA2 n2 xc2, .slice xA3 n3 xc3, .slice xA4 n4 xc4] 29))) := Lib.hid (Ba.out.below hb)
        replace Bb : Hid (Box (W.heap.size + 1) [.int .i64 g0, .int .i64 g1, .slice D2 m2 j2, .int .i64 g3, .int .i64 g4_0, .int .i64 g4_1, .slice D5 m5 j5, .slice D6 m6 j6, .int .i64 g7, .int .i64 g8, .int .i64 g9, .int .i64 g10] (w4.alloc (.cells #[.int .i64 f0, .slice xA1 n1 xc1, .slice xA2 n2 xc2, .slice xA3 n3 xc3, .slice xA4 n4 xc4] 29))) := Lib.hid (Bb.out.below hb)
        replace Bw : Hid (Box (gw) [.int .i64 f0, .slice wA1 m1 wc1, .slice wA2 n2 wc2, .slice wA3 n3 wc3, .slice wA4 n4 wc4] (w4.alloc (.cells #[.int .i64 f0, .slice xA1 n1 xc1, .slice xA2 n2 xc2, .slice xA3 n3 xc3, .slice xA4 n4 xc4] 29))) := Lib.hid (Bw.out.below hb)
        replace HT : Hid (Below W.heap.size W (w4.alloc (.cells #[.int .i64 f0, .slice xA1 n1 xc1, .slice xA2 n2 xc2, .slice xA3 n3 xc3, .slice xA4 n4 xc4] 29))) := Lib.hid (HT.out.trans (hb.mono HT.out.size))
        clear hb
        have Bx : Hid (Box (w4.heap.size) [.int .i64 f0, .slice xA1 n1 xc1, .slice xA2 n2 xc2, .slice xA3 n3 xc3, .slice xA4 n4 xc4] (w4.alloc (.cells #[.int .i64 f0, .slice xA1 n1 xc1, .slice xA2 n2 xc2, .slice xA3 n3 xc3, .slice xA4 n4 xc4] 29))) := Lib.hid (by have h1 := Box.new w4 #[.int .i64 f0, .slice xA1 n1 xc1, .slice xA2 n2 xc2, .slice xA3 n3 xc3, .slice xA4 n4 xc4] 29; (try simp only [World.size_alloc] at h1); exact h1)
        obtain ⟨zb0, zb1, zb2, zb3, zb4, zb5, zb6, zb7, zb8, zb9, zb10, zb11⟩ := Bb.out.c12
        go_wp2_with fail
        refine (toEntity g0 g1 M2 D2 m2 j2 g3 g4_0 g4_1 M5 D5 m5 j5 M6 D6 m6 j6 g7 g8 g9 g10 _ (Zb2.out.below HT.out) hf2 hqb2 (Zb5.out.below HT.out) hf5 hqb5 (Zb6.out.below HT.out) hf6 hqb6).mono ?_
        rintro e w5 ⟨zA2, zc2, zA5, zc5, zA6, zc6, a1, a2, rfl, hO2, hO5, hO6, ha0, ha1, ha2, hb⟩
        clear zb0 zb1 zb2 zb3 zb4 zb5 zb6 zb7 zb8 zb9 zb10 zb11
        replace Hw : Hid (Owns w5 (.r [.i f0, .l N1, .l L2, .l L3, .l L4]) [.int .i64 f0, .slice wA1 m1 wc1, .slice wA2 n2 wc2, .slice wA3 n3 wc3, .slice wA4 n4 wc4] (fun b => (w2.heap.size ≤ b ∧ b ≠ gw) ∧ b < w3.heap.size)) := Lib.hid (Hw.out.below hb)
        replace Hx : Hid (Owns w5 (.r [.i f0, .l L1, .l L2, .l L3, .l L4]) [.int .i64 f0, .slice xA1 n1 xc1, .slice xA2 n2 xc2, .slice xA3 n3 xc3, .slice xA4 n4 xc4] (rng (w3.heap.size) (w4.heap.size))) := Lib.hid (Hx.out.below hb)
        replace Ba : Hid (Box (W.heap.size) [.int .i64 f0, .slice A1 n1 c1, .slice A2 n2 c2, .slice A3 n3 c3, .slice A4 n4 c4] w5) := Lib.hid (Ba.out.below hb)
        replace Bb : Hid (Box (W.heap.size + 1) [.int .i64 g0, .int .i64 g1, .slice D2 m2 j2, .int .i64 g3, .int .i64 g4_0, .int .i64 g4_1, .slice D5 m5 j5, .slice D6 m6 j6, .int .i64 g7, .int .i64 g8, .int .i64 g9, .int .i64 g10] w5) := Lib.hid (Bb.out.below hb)
        replace Bw : Hid (Box (gw) [.int .i64 f0, .slice wA1 m1 wc1, .slice wA2 n2 wc2, .slice wA3 n3 wc3, .slice wA4 n4 wc4] w5) := Lib.hid (Bw.out.below hb)
        replace Bx : Hid (Box (w4.heap.size) [.int .i64 f0, .slice xA1 n1 xc1, .slice xA2 n2 xc2, .slice xA3 n3 xc3, .slice xA4 n4 xc4] w5) := Lib.hid (Bx.out.below hb)
        replace HT : Hid (Below W.heap.size W w5) := Lib.hid (HT.out.trans (hb.mono HT.out.size))
        have hsw5 : w4.heap.size + 1 ≤ w5.heap.size := (by have h1 := hb.size; (try simp only [World.size_alloc, World.size_drew] at h1); exact h1)
        have Hz : Hid (Owns w5 (.r [.i g0, .i g1, .l M2, .i g3, .r [.i g4_0, .i g4_1], .l M5, .l M6, .i g7, .i g8, .i g9, .i g10]) [.int .i64 g0, .int .i64 g1, .slice zA2 m2 zc2, .int .i64 g3, .int .i64 g4_0, .int .i64 g4_1, .slice zA5 m5 zc5, .slice zA6 m6 zc6, .int .i64 g7, .int .i64 g8, .int .i64 g9, .int .i64 g10] (rng (w4.heap.size + 1) (w5.heap.size))) := Lib.hid (by refine Owns.mono (fun b hb => ?_) (ownEntity hO2 hO5 hO6 ha0 ha1 ha2); have h1 := hb.1; have h2 := hb.2; (try simp only [World.size_alloc, World.size_drew] at h1 h2); exact ⟨by omega, by omega⟩)
        clear hO2 hO5 hO6 ha0 ha1 ha2 hb
        have hb : Below w5.heap.size w5 (w5.alloc (.cells #[.int .i64 g0, .int .i64 g1, .slice zA2 m2 zc2, .int .i64 g3, .int .i64 g4_0, .int .i64 g4_1, .slice zA5 m5 zc5, .slice zA6 m6 zc6, .int .i64 g7, .int .i64 g8, .int .i64 g9, .int .i64 g10] 38)) := (Below.refl _ _).alloc (Nat.le_refl _) _
        replace Hw : Hid (Owns (w5.alloc (.cells #[.int .i64 g0, .int .i64 g1, .slice zA2 m2 zc2, .int .i64 g3, .int .i64 g4_0, .int .i64 g4_1, .slice zA5 m5 zc5, .slice zA6 m6 zc6, .int .i64 g7, .int .i64 g8, .int .i64 g9, .int .i64 g10] 38)) (.r [.i f0, .l N1, .l L2, .l L3, .l L4]) [.int .i64 f0, .slice wA1 m1 wc1, .slice wA2 n2 wc2, .slice wA3 n3 wc3, .slice wA4 n4 wc4] (fun b => (w2.heap.size ≤ b ∧ b ≠ gw) ∧ b < w3.heap.size)) := Lib.hid (Hw.out.below hb)
        replace Hx : Hid (Owns (w5.alloc (.cells #[.int .i64 g0, .int .i64 g1, .slice zA2 m2 zc2, .int .i64 g3, .int .i64 g4_0, .int .i64 g4_1, .slice zA5 m5 zc5, .slice zA6 m6 zc6, .int .i64 g7, .int .i64 g8, .int .i64 g9, .int .i64 g10] 38)) (.r [.i f0, .l L1, .l L2, .l L3, .l L4]) [.int .i64 f0, .slice xA1 n1 xc1, .slice xA2 n2 xc2, .slice xA3 n3 xc3, .slice xA4 n4 xc4] (rng (w3.heap.size) (w4.heap.size))) := Lib.hid (Hx.out.below hb)
        replace Hz : Hid (Owns (w5.alloc (.cells #[.int .i64 g0, .int .i64 g1, .slice zA2 m2 zc2, .int .i64 g3, .int .i64 g4_0, .int .i64 g4_1, .slice zA5 m5 zc5, .slice zA6 m6 zc6, .int .i64 g7, .int .i64 g8, .int .i64 g9, .int .i64 g10] 38)) (.r [.i g0, .i g1, .l M2, .i g3, .r [.i g4_0, .i g4_1], .l M5, .l M6, .i g7, .i g8, .i g9, .i g10]) [.int .i64 g0, .int .i64 g1, .slice zA2 m2 zc2, .int .i64 g3, .int .i64 g4_0, .int .i64 g4_1, .slice zA5 m5 zc5, .slice zA6 m6 zc6, .int .i64 g7, .int .i64 g8, .int .i64 g9, .int .i64 g10] (rng (w4.heap.size + 1) (w5.heap.size))) := Lib.hid (Hz.out.below hb)
        replace Ba : Hid (Box (W.heap.size) [.int .i64 f0, .slice A1 n1 c1, .slice A2 n2 c2, .slice A3 n3 c3, .slice A4 n4 c4] (w5.alloc (.cells #[.int .i64 g0, .int .i64 g1, .slice zA2 m2 zc2, .int .i64 g3, .int .i64 g4_0, .int .i64 g4_1, .slice zA5 m5 zc5, .slice zA6 m6 zc6, .int .i64 g7, .int .i64 g8, .int .i64 g9, .int .i64 g10] 38))) := Lib.hid (Ba.out.below hb)
        replace Bb : Hid (Box (W.heap.size + 1) [.int .i64 g0, .int .i64 g1, .slice D2 m2 j2, .int .i64 g3, .int .i64 g4_0, .int .i64 g4_1, .slice D5 m5 j5, .slice D6 m6 j6, .int .i64 g7, .int .i64 g8, .int .i64 g9, .int .i64 g10] (w5.alloc (.cells #[.int .i64 g0, .int .i64 g1, .slice zA2 m2 zc2, .int .i64 g3, .int .i64 g4_0, .int .i64 g4_1, .slice zA5 m5 zc5, .slice zA6 m6 zc6, .int .i64 g7, .int .i64 g8, .int .i64 g9, .int .i64 g10] 38))) := Lib.hid (Bb.out.below hb)
        replace Bw : Hid (Box (gw) [.int .i64 f0, .slice wA1 m1 wc1, .slice wA2 n2 wc2, .slice wA3 n3 wc3, .slice wA4 n4 wc4] (w5.alloc (.cells #[.int .i64 g0, .int .i64 g1, .slice zA2 m2 zc2, .int .i64 g3, .int .i64 g4_0, .int .i64 g4_1, .slice zA5 m5 zc5, .slice zA6 m6 zc6, .int .i64 g7, .int .i64 g8, .int .i64 g9, .int .i64 g10] 38))) := Lib.hid (Bw.out.below hb)
        replace Bx : Hid (Box (w4.heap.size) [.int .i64 f0, .slice xA1 n1 xc1, .slice xA2 n2 xc2, .slice xA3 n3 xc3, .slice xA4 n4 xc4] (w5.alloc (.cells #[.int .i64 g0, .int .i64 g1, .slice zA2 m2 zc2, .int .i64 g3, .int .i64 g4_0, .int .i64 g4_1, .slice zA5 m5 zc5, .slice zA6 m6 zc6, .int .i64 g7, .int .i64 g8, .int .i64 g9, .int .i64 g10] 38))) := Lib.hid (Bx.out.below hb)
        replace HT : Hid (Below W.heap.size W (w5.alloc (.cells #[.int .i64 g0, .int .i64 g1, .slice zA2 m2 zc2, .int .i64 g3, .int .i64 g4_0, .int .i64 g4_1, .slice zA5 m5 zc5, .slice zA6 m6 zc6, .int .i64 g7, .int .i64 g8, .int .i64 g9, .int .i64 g10] 38))) := Lib.hid (HT.out.trans (hb.mono HT.out.size))
        clear hb
        have Bz : Hid (Box (w5.heap.size) [.int .i64 g0, .int .i64 g1, .slice zA2 m2 zc2, .int .i64 g3, .int .i64 g4_0, .int .i64 g4_1, .slice zA5 m5 zc5, .slice zA6 m6 zc6, .int .i64 g7, .int .i64 g8, .int .i64 g9, .int .i64 g10] (w5.alloc (.cells #[.int .i64 g0, .int .i64 g1, .slice zA2 m2 zc2, .int .i64 g3, .int .i64 g4_0, .int .i64 g4_1, .slice zA5 m5 zc5, .slice zA6 m6 zc6, .int .i64 g7, .int .i64 g8, .int .i64 g9, .int .i64 g10] 38))) := Lib.hid (by have h1 := Box.new w5 #[.int .i64 g0, .int .i64 g1, .slice zA2 m2 zc2, .int .i64 g3, .int .i64 g4_0, .int .i64 g4_1, .slice zA5 m5 zc5, .slice zA6 m6 zc6, .int .i64 g7, .int .i64 g8, .int .i64 g9, .int .i64 g10] 38; (try simp only [World.size_alloc] at h1); exact h1)
        obtain ⟨zx0, zx1, zx2, zx3, zx4⟩ := Bx.out.c5
        obtain ⟨zz0, zz1, zz2, zz3, zz4, zz5, zz6, zz7, zz8, zz9, zz10, zz11⟩ := Bz.out.c12
        go_wp2_with fail
        refine (CIM.out xA1 xc1 xA2 xc2 xA3 xc3 xA4 xc4 zA2 zc2 zA5 zc5 zA6 zc6 _ (liesVat1 Hx.out) (liesVat2 Hx.out) (liesVat3 Hx.out) (liesVat4 Hx.out) (liesEntity2 Hz.out) (liesEntity5 Hz.out) (liesEntity6 Hz.out)).mono ?_
        rintro e w6 ⟨gA1, gc1, gA2, gc2, gA3, gc3, gA4, gc4, rfl, hV, hb⟩
        clear zx0 zx1 zx2 zx3 zx4
        clear zz0 zz1 zz2 zz3 zz4 zz5 zz6 zz7 zz8 zz9 zz10 zz11
        replace Hw : Hid (Owns w6 (.r [.i f0, .l N1, .l L2, .l L3, .l L4]) [.int .i64 f0, .slice wA1 m1 wc1, .slice wA2 n2 wc2, .slice wA3 n3 wc3, .slice wA4 n4 wc4] (fun b => (w2.heap.size ≤ b ∧ b ≠ gw) ∧ b < w3.heap.size)) := Lib.hid (Hw.out.below hb)
        replace Hx : Hid (Owns w6 (.r [.i f0, .l L1, .l L2, .l L3, .l L4]) [.int .i64 f0, .slice xA1 n1 xc1, .slice xA2 n2 xc2, .slice xA3 n3 xc3, .slice xA4 n4 xc4] (rng (w3.heap.size) (w4.heap.size))) := Lib.hid (Hx.out.below hb)
        replace Hz : Hid (Owns w6 (.r [.i g0, .i g1, .l M2, .i g3, .r [.i g4_0, .i g4_1], .l M5, .l M6, .i g7, .i g8, .i g9, .i g10]) [.int .i64 g0, .int .i64 g1, .slice zA2 m2 zc2, .int .i64 g3, .int .i64 g4_0, .int .i64 g4_1, .slice zA5 m5 zc5, .slice zA6 m6 zc6, .int .i64 g7, .int .i64 g8, .int .i64 g9, .int .i64 g10] (rng (w4.heap.size + 1) (w5.heap.size))) := Lib.hid (Hz.out.below hb)
        replace Ba : Hid (Box (W.heap.size) [.int .i64 f0, .slice A1 n1 c1, .slice A2 n2 c2, .slice A3 n3 c3, .slice A4 n4 c4] w6) := Lib.hid (Ba.out.below hb)
        replace Bb : Hid (Box (W.heap.size + 1) [.int .i64 g0, .int .i64 g1, .slice D2 m2 j2, .int .i64 g3, .int .i64 g4_0, .int .i64 g4_1, .slice D5 m5 j5, .slice D6 m6 j6, .int .i64 g7, .int .i64 g8, .int .i64 g9, .int .i64 g10] w6) := Lib.hid (Bb.out.below hb)
        replace Bw : Hid (Box (gw) [.int .i64 f0, .slice wA1 m1 wc1, .slice wA2 n2 wc2, .slice wA3 n3 wc3, .slice wA4 n4 wc4] w6) := Lib.hid (Bw.out.below hb)
        replace Bx : Hid (Box (w4.heap.size) [.int .i64 f0, .slice xA1 n1 xc1, .slice xA2 n2 xc2, .slice xA3 n3 xc3, .slice xA4 n4 xc4] w6) := Lib.hid (Bx.out.below hb)
        replace Bz : Hid (Box (w5.heap.size) [.int .i64 g0, .int .i64 g1, .slice zA2 m2 zc2, .int .i64 g3, .int .i64 g4_0, .int .i64 g4_1, .slice zA5 m5 zc5, .slice zA6 m6 zc6, .int .i64 g7, .int .i64 g8, .int .i64 g9, .int .i64 g10] w6) := Lib.hid (Bz.out.below hb)
        replace HT : Hid (Below W.heap.size W w6) := Lib.hid (HT.out.trans (hb.mono HT.out.size))
        have hsw6 : w5.heap.size + 1 ≤ w6.heap.size := (by have h1 := hb.size; (try simp only [World.size_alloc, World.size_drew] at h1); exact h1)
        have Hg : Hid (Owns w6 (.r [.i f0, .l N1, .l L2, .l L3, .l L4]) [.int .i64 f0, .slice gA1 m1 gc1, .slice gA2 n2 gc2, .slice gA3 n3 gc3, .slice gA4 n4 gc4] (rng (w5.heap.size + 1) (w6.heap.size))) := Lib.hid (by refine Owns.mono (fun b hb => ?_) (hV.owns); have h1 := hb.1; have h2 := hb.2; (try simp only [World.size_alloc, World.size_drew] at h1 h2); exact ⟨by omega, by omega⟩)
        clear hV hb
        have hb : Below w6.heap.size w6 (w6.alloc (.cells #[.int .i64 f0, .slice gA1 m1 gc1, .slice gA2 n2 gc2, .slice gA3 n3 gc3, .slice gA4 n4 gc4] 29)) := (Below.refl _ _).alloc (Nat.le_refl _) _
        replace Hw : Hid (Owns (w6.alloc (.cells #[.int .i64 f0, .slice gA1 m1 gc1, .slice gA2 n2 gc2, .slice gA3 n3 gc3, .slice gA4 n4 gc4] 29)) (.r [.i f0, .l N1, .l L2, .l L3, .l L4]) [.int .i64 f0, .slice wA1 m1 wc1, .slice wA2 n2 wc2, .slice wA3 n3 wc3, .slice wA4 n4 wc4] (fun b => (w2.heap.size ≤ b ∧ b ≠ gw) ∧ b < w3.heap.size)) := Lib.hid (Hw.out.below hb)
        replace Hx : Hid (Owns (w6.alloc (.cells #[.int .i64 f0, .slice gA1 m1 gc1, .slice gA2 n2 gc2, .slice gA3 n3 gc3, .slice gA4 n4 gc4] 29)) (.r [.i f0, .l L1, .l L2, .l L3, .l L4]) [.int .i64 f0, .slice xA1 n1 xc1, .slice xA2 n2 xc2, .slice xA3 n3 xc3, .slice xA4 n4 xc4] (rng (w3.heap.size) (w4.heap.size))) := Lib.hid (Hx.out.below hb)
        replace Hz : Hid (Owns (w6.alloc (.cells #[.int .i64 f0, .slice gA1 m1 gc1, .slice gA2 n2 gc2, .slice gA3 n3 gc3, .slice gA4 n4 gc4] 29)) (.r [.i g0, .i g1, .l M2, .i g3, .r [.i g4_0, .i g4_1], .l M5, .l M6, .i g7, .i g8, .i g9, .i g10]) [.int .i64 g0, .int .i64 g1, .slice zA2 m2 zc2, .int .i64 g3, .int .i64 g4_0, .int .i64 g4_1, .slice zA5 m5 zc5, .slice zA6 m6 zc6, .int .i64 g7, .int .i64 g8, .int .i64 g9, .int .i64 g10] (rng (w4.heap.size + 1) (w5.heap.size))) := Lib.hid (Hz.out.below hb)
        replace Hg : Hid (Owns (w6.alloc (.cells #[.int .i64 f0, .slice gA1 m1 gc1, .slice gA2 n2 gc2, .slice gA3 n3 gc3, .slice gA4 n4 gc4] 29)) (.r [.i f0, .l N1, .l L2, .l L3, .l L4]) [.int .i64 f0, .slice gA1 m1 gc1, .slice gA2 n2 gc2, .slice gA3 n3 gc3, .slice gA4 n4 gc4] (rng (w5.heap.size + 1) (w6.heap.size))) := Lib.hid (Hg.out.below hb)
        replace Ba : Hid (Box (W.heap.size) [.int .i64 f0, .slice A1 n1 c1, .slice A2 n2 c2, .slice A3 n3 c3, .slice A4 n4 c4] (w6.alloc (.cells #[.int .i64 f0, .slice gA1 m1 gc1, .slice gA2 n2 gc2, .slice gA3 n3 gc3, .slice gA4 n4 gc4] 29))) := Lib.hid (Ba.out.below hb)
        replace Bb : Hid (Box (W.heap.size + 1) [.int .i64 g0, .int .i64 g1, .slice D2 m2 j2, .int .i64 g3, .int .i64 g4_0, .int .i64 g4_1, .slice D5 m5 j5, .slice D6 m6 j6, .int .i64 g7, .int .i64 g8, .int .i64 g9, .int .i64 g10] (w6.alloc (.cells #[.int .i64 f0, .slice gA1 m1 gc1, .slice gA2 n2 gc2, .slice gA3 n3 gc3, .slice gA4 n4 gc4] 29))) := Lib.hid (Bb.out.below hb)
        replace Bw : Hid (Box (gw) [.int .i64 f0, .slice wA1 m1 wc1, .slice wA2 n2 wc2, .slice wA3 n3 wc3, .slice wA4 n4 wc4] (w6.alloc (.cells #[.int .i64 f0, .slice gA1 m1 gc1, .slice gA2 n2 gc2, .slice gA3 n3 gc3, .slice gA4 n4 gc4] 29))) := Lib.hid (Bw.out.below hb)
        replace Bx : Hid (Box (w4.heap.size) [.int .i64 f0, .slice xA1 n1 xc1, .slice xA2 n2 xc2, .slice xA3 n3 xc3, .slice xA4 n4 xc4] (w6.alloc (.cells #[.int .i64 f0, .slice gA1 m1 gc1, .slice gA2 n2 gc2, .slice gA3 n3 gc3, .slice gA4 n4 gc4] 29))) := Lib.hid (Bx.out.below hb)
        replace Bz : Hid (Box (w5.heap.size) [.int .i64 g0, .int .i64 g1, .slice zA2 m2 zc2, .int .i64 g3, .int .i64 g4_0, .int .i64 g4_1, .slice zA5 m5 zc5, .slice zA6 m6 zc6, .int .i64 g7, .int .i64 g8, .int .i64 g9, .int .i64 g10] (w6.alloc (.cells #[.int .i64 f0, .slice gA1 m1 gc1, .slice gA2 n2 gc2, .slice gA3 n3 gc3, .slice gA4 n4 gc4] 29))) := Lib.hid (Bz.out.below hb)
        replace HT : Hid (Below W.heap.size W (w6.alloc (.cells #[.int .i64 f0, .slice gA1 m1 gc1, .slice gA2 n2 gc2, .slice gA3 n3 gc3, .slice gA4 n4 gc4] 29))) := Lib.hid (HT.out.trans (hb.mono HT.out.size))
        clear hb
        have Bg : Hid (Box (w6.heap.size) [.int .i64 f0, .slice gA1 m1 gc1, .slice gA2 n2 gc2, .slice gA3 n3 gc3, .slice gA4 n4 gc4] (w6.alloc (.cells #[.int .i64 f0, .slice gA1 m1 gc1, .slice gA2 n2 gc2, .slice gA3 n3 gc3, .slice gA4 n4 gc4] 29))) := Lib.hid (by have h1 := Box.new w6 #[.int .i64 f0, .slice gA1 m1 gc1, .slice gA2 n2 gc2, .slice gA3 n3 gc3, .slice gA4 n4 gc4] 29; (try simp only [World.size_alloc] at h1); exact h1)
        obtain ⟨zg0, zg1, zg2, zg3, zg4⟩ := Bg.out.c5
        obtain ⟨zw0, zw1, zw2, zw3, zw4⟩ := Bw.out.c5
        go_wp2_with fail
        refine (eqVat f0 N1 gA1 m1 gc1 L2 gA2 n2 gc2 L3 gA3 n3 gc3 L4 gA4 n4 gc4 wA1 wc1 wA2 wc2 wA3 wc3 wA4 wc4 _ (liesVat1 Hg.out) (liesVat1 Hw.out) htN1 hmN1 (liesVat2 Hg.out) (liesVat2 Hw.out) ht2 hm2 (liesVat3 Hg.out) (liesVat3 Hw.out) ht3 hm3 (liesVat4 Hg.out) (liesVat4 Hw.out) ht4 hm4).mono ?_
        rintro e w7 ⟨rfl, hb⟩
        clear zg0 zg1 zg2 zg3 zg4
        clear zw0 zw1 zw2 zw3 zw4
        replace Hw : Hid (Owns w7 (.r [.i f0, .l N1, .l L2, .l L3, .l L4]) [.int .i64 f0, .slice wA1 m1 wc1, .slice wA2 n2 wc2, .slice wA3 n3 wc3, .slice wA4 n4 wc4] (fun b => (w2.heap.size ≤ b ∧ b ≠ gw) ∧ b < w3.heap.size)) := Lib.hid (Hw.out.below hb)
        replace Hx : Hid (Owns w7 (.r [.i f0, .l L1, .l L2, .l L3, .l L4]) [.int .i64 f0, .slice xA1 n1 xc1, .slice xA2 n2 xc2, .slice xA3 n3 xc3, .slice xA4 n4 xc4] (rng (w3.heap.size) (w4.heap.size))) := Lib.hid (Hx.out.below hb)
        replace Hz : Hid (Owns w7 (.r [.i g0, .i g1, .l M2, .i g3, .r [.i g4_0, .i g4_1], .l M5, .l M6, .i g7, .i g8, .i g9, .i g10]) [.int .i64 g0, .int .i64 g1, .slice zA2 m2 zc2, .int .i64 g3, .int .i64 g4_0, .int .i64 g4_1, .slice zA5 m5 zc5, .slice zA6 m6 zc6, .int .i64 g7, .int .i64 g8, .int .i64 g9, .int .i64 g10] (rng (w4.heap.size + 1) (w5.heap.size))) := Lib.hid (Hz.out.below hb)
        replace Hg : Hid (Owns w7 (.r [.i f0, .l N1, .l L2, .l L3, .l L4]) [.int .i64 f0, .slice gA1 m1 gc1, .slice gA2 n2 gc2, .slice gA3 n3 gc3, .slice gA4 n4 gc4] (rng (w5.heap.size + 1) (w6.heap.size))) := Lib.hid (Hg.out.below hb)
        replace Ba : Hid (Box (W.heap.size) [.int .i64 f0, .slice A1 n1 c1, .slice A2 n2 c2, .slice A3 n3 c3, .slice A4 n4 c4] w7) := Lib.hid (Ba.out.below hb)
        replace Bb : Hid (Box (W.heap.size + 1) [.int .i64 g0, .int .i64 g1, .slice D2 m2 j2, .int .i64 g3, .int .i64 g4_0, .int .i64 g4_1, .slice D5 m5 j5, .slice D6 m6 j6, .int .i64 g7, .int .i64 g8, .int .i64 g9, .int .i64 g10] w7) := Lib.hid (Bb.out.below hb)
        replace Bw : Hid (Box (gw) [.int .i64 f0, .slice wA1 m1 wc1, .slice wA2 n2 wc2, .slice wA3 n3 wc3, .slice wA4 n4 wc4] w7) := Lib.hid (Bw.out.below hb)
        replace Bx : Hid (Box (w4.heap.size) [.int .i64 f0, .slice xA1 n1 xc1, .slice xA2 n2 xc2, .slice xA3 n3 xc3, .slice xA4 n4 xc4] w7) := Lib.hid (Bx.out.below hb)
        replace Bz : Hid (Box (w5.heap.size) [.int .i64 g0, .int .i64 g1, .slice zA2 m2 zc2, .int .i64 g3, .int .i64 g4_0, .int .i64 g4_1, .slice zA5 m5 zc5, .slice zA6 m6 zc6, .int .i64 g7, .int .i64 g8, .int .i64 g9, .int .i64 g10] w7) := Lib.hid (Bz.out.below hb)
        replace Bg : Hid (Box (w6.heap.size) [.int .i64 f0, .slice gA1 m1 gc1, .slice gA2 n2 gc2, .slice gA3 n3 gc3, .slice gA4 n4 gc4] w7) := Lib.hid (Bg.out.below hb)
        replace HT : Hid (Below W.heap.size W w7) := Lib.hid (HT.out.trans (hb.mono HT.out.size))
        have hsw7 : w6.heap.size + 1 ≤ w7.heap.size := (by have h1 := hb.size; (try simp only [World.size_alloc, World.size_drew] at h1); exact h1)
        clear hb
        obtain ⟨zx0, zx1, zx2, zx3, zx4⟩ := Bx.out.c5
        obtain ⟨za0, za1, za2, za3, za4⟩ := Ba.out.c5
        go_wp2_with fail
        clear zx0 zx1 zx2 zx3 zx4
        clear za0 za1 za2 za3 za4
        have hb : Below w7.heap.size w7 w7.drew := (Below.refl _ _).drew
        replace Hw : Hid (Owns w7.drew (.r [.i f0, .l N1, .l L2, .l L3, .l L4]) [.int .i64 f0, .slice wA1 m1 wc1, .slice wA2 n2 wc2, .slice wA3 n3 wc3, .slice wA4 n4 wc4] (fun b => (w2.heap.size ≤ b ∧ b ≠ gw) ∧ b < w3.heap.size)) := Lib.hid (Hw.out.below hb)
        replace Hx : Hid (Owns w7.drew (.r [.i f0, .l L1, .l L2, .l L3, .l L4]) [.int .i64 f0, .slice xA1 n1 xc1, .slice xA2 n2 xc2, .slice xA3 n3 xc3, .slice xA4 n4 xc4] (rng (w3.heap.size) (w4.heap.size))) := Lib.hid (Hx.out.below hb)
        replace Hz : Hid (Owns w7.drew (.r [.i g0, .i g1, .l M2, .i g3, .r [.i g4_0, .i g4_1], .l M5, .l M6, .i g7, .i g8, .i g9, .i g10]) [.int .i64 g0, .int .i64 g1, .slice zA2 m2 zc2, .int .i64 g3, .int .i64 g4_0, .int .i64 g4_1, .slice zA5 m5 zc5, .slice zA6 m6 zc6, .int .i64 g7, .int .i64 g8, .int .i64 g9, .int .i64 g10] (rng (w4.heap.size + 1) (w5.heap.size))) := Lib.hid (Hz.out.below hb)
        replace Hg : Hid (Owns w7.drew (.r [.i f0, .l N1, .l L2, .l L3, .l L4]) [.int .i64 f0, .slice gA1 m1 gc1, .slice gA2 n2 gc2, .slice gA3 n3 gc3, .slice gA4 n4 gc4] (rng (w5.heap.size + 1) (w6.heap.size))) := Lib.hid (Hg.out.below hb)
        replace Ba : Hid (Box (W.heap.size) [.int .i64 f0, .slice A1 n1 c1, .slice A2 n2 c2, .slice A3 n3 c3, .slice A4 n4 c4] w7.drew) := Lib.hid (Ba.out.below hb)
        replace Bb : Hid (Box (W.heap.size + 1) [.int .i64 g0, .int .i64 g1, .slice D2 m2 j2, .int .i64 g3, .int .i64 g4_0, .int .i64 g4_1, .slice D5 m5 j5, .slice D6 m6 j6, .int .i64 g7, .int .i64 g8, .int .i64 g9, .int .i64 g10] w7.drew) := Lib.hid (Bb.out.below hb)
        replace Bw : Hid (Box (gw) [.int .i64 f0, .slice wA1 m1 wc1, .slice wA2 n2 wc2, .slice wA3 n3 wc3, .slice wA4 n4 wc4] w7.drew) := Lib.hid (Bw.out.below hb)
        replace Bx : Hid (Box (w4.heap.size) [.int .i64 f0, .slice xA1 n1 xc1, .slice xA2 n2 xc2, .slice xA3 n3 xc3, .slice xA4 n4 xc4] w7.drew) := Lib.hid (Bx.out.below hb)
        replace Bz : Hid (Box (w5.heap.size) [.int .i64 g0, .int .i64 g1, .slice zA2 m2 zc2, .int .i64 g3, .int .i64 g4_0, .int .i64 g4_1, .slice zA5 m5 zc5, .slice zA6 m6 zc6, .int .i64 g7, .int .i64 g8, .int .i64 g9, .int .i64 g10] w7.drew) := Lib.hid (Bz.out.below hb)
        replace Bg : Hid (Box (w6.heap.size) [.int .i64 f0, .slice gA1 m1 gc1, .slice gA2 n2 gc2, .slice gA3 n3 gc3, .slice gA4 n4 gc4] w7.drew) := Lib.hid (Bg.out.below hb)
        replace HT : Hid (Below W.heap.size W w7.drew) := Lib.hid (HT.out.trans (hb.mono HT.out.size))
        clear hb
        go_region_held3 (fun w' => (w'.cell? ⟨w4.heap.size, 0, none⟩ = some (.int .i64 f0) ∧ w'.cell? ⟨w4.heap.size, 1, none⟩ = some (.slice xA1 n1 xc1) ∧ w'.cell? ⟨w4.heap.size, 2, none⟩ = some (.slice xA2 n2 xc2) ∧ w'.cell? ⟨w4.heap.size, 3, none⟩ = some (.slice xA3 n3 xc3) ∧ w'.cell? ⟨w4.heap.size, 4, none⟩ = some (.slice xA4 n4 xc4)) ∧ (w'.cell? ⟨W.heap.size, 0, none⟩ = some (.int .i64 f0) ∧ w'.cell? ⟨W.heap.size, 1, none⟩ = some (.slice A1 n1 c1) ∧ w'.cell? ⟨W.heap.size, 2, none⟩ = some (.slice A2 n2 c2) ∧ w'.cell? ⟨W.heap.size, 3, none⟩ = some (.slice A3 n3 c3) ∧ w'.cell? ⟨W.heap.size, 4, none⟩ = some (.slice A4 n4 c4)))
          (first | with_reducible exact ⟨Bx.out.c5, Ba.out.c5⟩ | go_keep)
          (first
          | (go_at_call 30; (with_reducible refine (toVat f0 L1 A1 n1 c1 L2 A2 n2 c2 L3 A3 n3 c3 L4 A4 n4 c4 _ (Za1.out.below HT.out) ht1 hqa1 (Za2.out.below HT.out) ht2 hqa2 (Za3.out.below HT.out) ht3 hqa3 (Za4.out.below HT.out) ht4 hqa4).mono ?_); rintro e u17 ⟨uA1, uc1, uA2, uc2, uA3, uc3, uA4, uc4, a1, a2, a3, rfl, hO1, hO2, hO3, hO4, ha0, ha1, ha2, ha3, hb⟩; replace Hw : Hid (Owns u17 (.r [.i f0, .l N1, .l L2, .l L3, .l L4]) [.int .i64 f0, .slice wA1 m1 wc1, .slice wA2 n2 wc2, .slice wA3 n3 wc3, .slice wA4 n4 wc4] (fun b => (w2.heap.size ≤ b ∧ b ≠ gw) ∧ b < w3.heap.size)) := Lib.hid (Hw.out.below hb); replace Hx : Hid (Owns u17 (.r [.i f0, .l L1, .l L2, .l L3, .l L4]) [.int .i64 f0, .slice xA1 n1 xc1, .slice xA2 n2 xc2, .slice xA3 n3 xc3, .slice xA4 n4 xc4] (rng (w3.heap.size) (w4.heap.size))) := Lib.hid (Hx.out.below hb); replace Hz : Hid (Owns u17 (.r [.i g0, .i g1, .l M2, .i g3, .r [.i g4_0, .i g4_1], .l M5, .l M6, .i g7, .i g8, .i g9, .i g10]) [.int .i64 g0, .int .i64 g1, .slice zA2 m2 zc2, .int .i64 g3, .int .i64 g4_0, .int .i64 g4_1, .slice zA5 m5 zc5, .slice zA6 m6 zc6, .int .i64 g7, .int .i64 g8, .int .i64 g9, .int .i64 g10] (rng (w4.heap.size + 1) (w5.heap.size))) := Lib.hid (Hz.out.below hb); replace Hg : Hid (Owns u17 (.r [.i f0, .l N1, .l L2, .l L3, .l L4]) [.int .i64 f0, .slice gA1 m1 gc1, .slice gA2 n2 gc2, .slice gA3 n3 gc3, .slice gA4 n4 gc4] (rng (w5.heap.size + 1) (w6.heap.size))) := Lib.hid (Hg.out.below hb); replace Ba : Hid (Box (W.heap.size) [.int .i64 f0, .slice A1 n1 c1, .slice A2 n2 c2, .slice A3 n3 c3, .slice A4 n4 c4] u17) := Lib.hid (Ba.out.below hb); replace Bb : Hid (Box (W.heap.size + 1) [.int .i64 g0, .int .i64 g1, .slice D2 m2 j2, .int .i64 g3, .int .i64 g4_0, .int .i64 g4_1, .slice D5 m5 j5, .slice D6 m6 j6, .int .i64 g7, .int .i64 g8, .int .i64 g9, .int .i64 g10] u17) := Lib.hid (Bb.out.below hb); replace Bw : Hid (Box (gw) [.int .i64 f0, .slice wA1 m1 wc1, .slice wA2 n2 wc2, .slice wA3 n3 wc3, .slice wA4 n4 wc4] u17) := Lib.hid (Bw.out.below hb); replace Bx : Hid (Box (w4.heap.size) [.int .i64 f0, .slice xA1 n1 xc1, .slice xA2 n2 xc2, .slice xA3 n3 xc3, .slice xA4 n4 xc4] u17) := Lib.hid (Bx.out.below hb); replace Bz : Hid (Box (w5.heap.size) [.int .i64 g0, .int .i64 g1, .slice zA2 m2 zc2, .int .i64 g3, .int .i64 g4_0, .int .i64 g4_1, .slice zA5 m5 zc5, .slice zA6 m6 zc6, .int .i64 g7, .int .i64 g8, .int .i64 g9, .int .i64 g10] u17) := Lib.hid (Bz.out.below hb); replace Bg : Hid (Box (w6.heap.size) [.int .i64 f0, .slice gA1 m1 gc1, .slice gA2 n2 gc2, .slice gA3 n3 gc3, .slice gA4 n4 gc4] u17) := Lib.hid (Bg.out.below hb); replace HT : Hid (Below W.heap.size W u17) := Lib.hid (HT.out.trans (hb.mono HT.out.size)); have hsu17 : w7.heap.size ≤ u17.heap.size := (by have h1 := hb.size; (try simp only [World.size_alloc, World.size_drew] at h1); exact h1); have Hu : Hid (Owns u17 (.r [.i f0, .l L1, .l L2, .l L3, .l L4]) [.int .i64 f0, .slice uA1 n1 uc1, .slice uA2 n2 uc2, .slice uA3 n3 uc3, .slice uA4 n4 uc4] (rng (w7.heap.size) (u17.heap.size))) := Lib.hid (by refine Owns.mono (fun b hb => ?_) (ownVat hO1 hO2 hO3 hO4 ha0 ha1 ha2 ha3); have h1 := hb.1; have h2 := hb.2; (try simp only [World.size_alloc, World.size_drew] at h1 h2); exact ⟨by omega, by omega⟩); clear hO1 hO2 hO3 hO4 ha0 ha1 ha2 ha3 hb)
          | (go_at_call 23; (with_reducible refine (eqVat f0 L1 xA1 n1 xc1 L2 xA2 n2 xc2 L3 xA3 n3 xc3 L4 xA4 n4 xc4 uA1 uc1 uA2 uc2 uA3 uc3 uA4 uc4 _ (liesVat1 Hx.out) (liesVat1 Hu.out) ht1 hm1 (liesVat2 Hx.out) (liesVat2 Hu.out) ht2 hm2 (liesVat3 Hx.out) (liesVat3 Hu.out) ht3 hm3 (liesVat4 Hx.out) (liesVat4 Hu.out) ht4 hm4).mono ?_); rintro e u18 ⟨rfl, hb⟩; replace Hw : Hid (Owns u18 (.r [.i f0, .l N1, .l L2, .l L3, .l L4]) [.int .i64 f0, .slice wA1 m1 wc1, .slice wA2 n2 wc2, .slice wA3 n3 wc3, .slice wA4 n4 wc4] (fun b => (w2.heap.size ≤ b ∧ b ≠ gw) ∧ b < w3.heap.size)) := Lib.hid (Hw.out.below hb); replace Hx : Hid (Owns u18 (.r [.i f0, .l L1, .l L2, .l L3, .l L4]) [.int .i64 f0, .slice xA1 n1 xc1, .slice xA2 n2 xc2, .slice xA3 n3 xc3, .slice xA4 n4 xc4] (rng (w3.heap.size) (w4.heap.size))) := Lib.hid (Hx.out.below hb); replace Hz : Hid (Owns u18 (.r [.i g0, .i g1, .l M2, .i g3, .r [.i g4_0, .i g4_1], .l M5, .l M6, .i g7, .i g8, .i g9, .i g10]) [.int .i64 g0, .int .i64 g1, .slice zA2 m2 zc2, .int .i64 g3, .int .i64 g4_0, .int .i64 g4_1, .slice zA5 m5 zc5, .slice zA6 m6 zc6, .int .i64 g7, .int .i64 g8, .int .i64 g9, .int .i64 g10] (rng (w4.heap.size + 1) (w5.heap.size))) := Lib.hid (Hz.out.below hb); replace Hg : Hid (Owns u18 (.r [.i f0, .l N1, .l L2, .l L3, .l L4]) [.int .i64 f0, .slice gA1 m1 gc1, .slice gA2 n2 gc2, .slice gA3 n3 gc3, .slice gA4 n4 gc4] (rng (w5.heap.size + 1) (w6.heap.size))) := Lib.hid (Hg.out.below hb); replace Hu : Hid (Owns u18 (.r [.i f0, .l L1, .l L2, .l L3, .l L4]) [.int .i64 f0, .slice uA1 n1 uc1, .slice uA2 n2 uc2, .slice uA3 n3 uc3, .slice uA4 n4 uc4] (rng (w7.heap.size) (u17.heap.size))) := Lib.hid (Hu.out.below hb); replace Ba : Hid (Box (W.heap.size) [.int .i64 f0, .slice A1 n1 c1, .slice A2 n2 c2, .slice A3 n3 c3, .slice A4 n4 c4] u18) := Lib.hid (Ba.out.below hb); replace Bb : Hid (Box (W.heap.size + 1) [.int .i64 g0, .int .i64 g1, .slice D2 m2 j2, .int .i64 g3, .int .i64 g4_0, .int .i64 g4_1, .slice D5 m5 j5, .slice D6 m6 j6, .int .i64 g7, .int .i64 g8, .int .i64 g9, .int .i64 g10] u18) := Lib.hid (Bb.out.below hb); replace Bw : Hid (Box (gw) [.int .i64 f0, .slice wA1 m1 wc1, .slice wA2 n2 wc2, .slice wA3 n3 wc3, .slice wA4 n4 wc4] u18) := Lib.hid (Bw.out.below hb); replace Bx : Hid (Box (w4.heap.size) [.int .i64 f0, .slice xA1 n1 xc1, .slice xA2 n2 xc2, .slice xA3 n3 xc3, .slice xA4 n4 xc4] u18) := Lib.hid (Bx.out.below hb); replace Bz : Hid (Box (w5.heap.size) [.int .i64 g0, .int .i64 g1, .slice zA2 m2 zc2, .int .i64 g3, .int .i64 g4_0, .int .i64 g4_1, .slice zA5 m5 zc5, .slice zA6 m6 zc6, .int .i64 g7, .int .i64 g8, .int .i64 g9, .int .i64 g10] u18) := Lib.hid (Bz.out.below hb); replace Bg : Hid (Box (w6.heap.size) [.int .i64 f0, .slice gA1 m1 gc1, .slice gA2 n2 gc2, .slice gA3 n3 gc3, .slice gA4 n4 gc4] u18) := Lib.hid (Bg.out.below hb); replace HT : Hid (Below W.heap.size W u18) := Lib.hid (HT.out.trans (hb.mono HT.out.size)); have hsu18 : u17.heap.size ≤ u18.heap.size := hb.size; clear hb))
        all_goals (
          clear Hu
          obtain ⟨zz0, zz1, zz2, zz3, zz4, zz5, zz6, zz7, zz8, zz9, zz10, zz11⟩ := Bz.out.c12
          obtain ⟨zb0, zb1, zb2, zb3, zb4, zb5, zb6, zb7, zb8, zb9, zb10, zb11⟩ := Bb.out.c12
          go_wp2_with fail
          clear zz0 zz1 zz2 zz3 zz4 zz5 zz6 zz7 zz8 zz9 zz10 zz11
          clear zb0 zb1 zb2 zb3 zb4 zb5 zb6 zb7 zb8 zb9 zb10 zb11
          have hb : Below u18.heap.size u18 u18.drew := (Below.refl _ _).drew
          replace Hw : Hid (Owns u18.drew (.r [.i f0, .l N1, .l L2, .l L3, .l L4]) [.int .i64 f0, .slice wA1 m1 wc1, .slice wA2 n2 wc2, .slice wA3 n3 wc3, .slice wA4 n4 wc4] (fun b => (w2.heap.size ≤ b ∧ b ≠ gw) ∧ b < w3.heap.size)) := Lib.hid (Hw.out.below hb)
          replace Hx : Hid (Owns u18.drew (.r [.i f0, .l L1, .l L2, .l L3, .l L4]) [.int .i64 f0, .slice xA1 n1 xc1, .slice xA2 n2 xc2, .slice xA3 n3 xc3, .slice xA4 n4 xc4] (rng (w3.heap.size) (w4.heap.size))) := Lib.hid (Hx.out.below hb)
          replace Hz : Hid (Owns u18.drew (.r [.i g0, .i g1, .l M2, .i g3, .r [.i g4_0, .i g4_1], .l M5, .l M6, .i g7, .i g8, .i g9, .i g10]) [.int .i64 g0, .int .i64 g1, .slice zA2 m2 zc2, .int .i64 g3, .int .i64 g4_0, .int .i64 g4_1, .slice zA5 m5 zc5, .slice zA6 m6 zc6, .int .i64 g7, .int .i64 g8, .int .i64 g9, .int .i64 g10] (rng (w4.heap.size + 1) (w5.heap.size))) := Lib.hid (Hz.out.below hb)
          replace Hg : Hid (Owns u18.drew (.r [.i f0, .l N1, .l L2, .l L3, .l L4]) [.int .i64 f0, .slice gA1 m1 gc1, .slice gA2 n2 gc2, .slice gA3 n3 gc3, .slice gA4 n4 gc4] (rng (w5.heap.size + 1) (w6.heap.size))) := Lib.hid (Hg.out.below hb)
          replace Ba : Hid (Box (W.heap.size) [.int .i64 f0, .slice A1 n1 c1, .slice A2 n2 c2, .slice A3 n3 c3, .slice A4 n4 c4] u18.drew) := Lib.hid (Ba.out.below hb)
          replace Bb : Hid (Box (W.heap.size + 1) [.int .i64 g0, .int .i64 g1, .slice D2 m2 j2, .int .i64 g3, .int .i64 g4_0, .int .i64 g4_1, .slice D5 m5 j5, .slice D6 m6 j6, .int .i64 g7, .int .i64 g8, .int .i64 g9, .int .i64 g10] u18.drew) := Lib.hid (Bb.out.below hb)
          replace Bw : Hid (Box (gw) [.int .i64 f0, .slice wA1 m1 wc1, .slice wA2 n2 wc2, .slice wA3 n3 wc3, .slice wA4 n4 wc4] u18.drew) := Lib.hid (Bw.out.below hb)
          replace Bx : Hid (Box (w4.heap.size) [.int .i64 f0, .slice xA1 n1 xc1, .slice xA2 n2 xc2, .slice xA3 n3 xc3, .slice xA4 n4 xc4] u18.drew) := Lib.hid (Bx.out.below hb)
          replace Bz : Hid (Box (w5.heap.size) [.int .i64 g0, .int .i64 g1, .slice zA2 m2 zc2, .int .i64 g3, .int .i64 g4_0, .int .i64 g4_1, .slice zA5 m5 zc5, .slice zA6 m6 zc6, .int .i64 g7, .int .i64 g8, .int .i64 g9, .int .i64 g10] u18.drew) := Lib.hid (Bz.out.below hb)
          replace Bg : Hid (Box (w6.heap.size) [.int .i64 f0, .slice gA1 m1 gc1, .slice gA2 n2 gc2, .slice gA3 n3 gc3, .slice gA4 n4 gc4] u18.drew) := Lib.hid (Bg.out.below hb)
          replace HT : Hid (Below W.heap.size W u18.drew) := Lib.hid (HT.out.trans (hb.mono HT.out.size))
          clear hb
          go_region_held3 (fun w' => (w'.cell? ⟨w5.heap.size, 0, none⟩ = some (.int .i64 g0) ∧ w'.cell? ⟨w5.heap.size, 1, none⟩ = some (.int .i64 g1) ∧ w'.cell? ⟨w5.heap.size, 2, none⟩ = some (.slice zA2 m2 zc2) ∧ w'.cell? ⟨w5.heap.size, 3, none⟩ = some (.int .i64 g3) ∧ w'.cell? ⟨w5.heap.size, 4, none⟩ = some (.int .i64 g4_0) ∧ w'.cell? ⟨w5.heap.size, 5, none⟩ = some (.int .i64 g4_1) ∧ w'.cell? ⟨w5.heap.size, 6, none⟩ = some (.slice zA5 m5 zc5) ∧ w'.cell? ⟨w5.heap.size, 7, none⟩ = some (.slice zA6 m6 zc6) ∧ w'.cell? ⟨w5.heap.size, 8, none⟩ = some (.int .i64 g7) ∧ w'.cell? ⟨w5.heap.size, 9, none⟩ = some (.int .i64 g8) ∧ w'.cell? ⟨w5.heap.size, 10, none⟩ = some (.int .i64 g9) ∧ w'.cell? ⟨w5.heap.size, 11, none⟩ = some (.int .i64 g10)) ∧ (w'.cell? ⟨W.heap.size + 1, 0, none⟩ = some (.int .i64 g0) ∧ w'.cell? ⟨W.heap.size + 1, 1, none⟩ = some (.int .i64 g1) ∧ w'.cell? ⟨W.heap.size + 1, 2, none⟩ = some (.slice D2 m2 j2) ∧ w'.cell? ⟨W.heap.size + 1, 3, none⟩ = some (.int .i64 g3) ∧ w'.cell? ⟨W.heap.size + 1, 4, none⟩ = some (.int .i64 g4_0) ∧ w'.cell? ⟨W.heap.size + 1, 5, none⟩ = some (.int .i64 g4_1) ∧ w'.cell? ⟨W.heap.size + 1, 6, none⟩ = some (.slice D5 m5 j5) ∧ w'.cell? ⟨W.heap.size + 1, 7, none⟩ = some (.slice D6 m6 j6) ∧ w'.cell? ⟨W.heap.size + 1, 8, none⟩ = some (.int .i64 g7) ∧ w'.cell? ⟨W.heap.size + 1, 9, none⟩ = some (.int .i64 g8) ∧ w'.cell? ⟨W.heap.size + 1, 10, none⟩ = some (.int .i64 g9) ∧ w'.cell? ⟨W.heap.size + 1, 11, none⟩ = some (.int .i64 g10)))
            (first | with_reducible exact ⟨Bz.out.c12, Bb.out.c12⟩ | go_keep)
            (first
            | (go_at_call 37; (with_reducible refine (toEntity g0 g1 M2 D2 m2 j2 g3 g4_0 g4_1 M5 D5 m5 j5 M6 D6 m6 j6 g7 g8 g9 g10 _ (Zb2.out.below HT.out) hf2 hqb2 (Zb5.out.below HT.out) hf5 hqb5 (Zb6.out.below HT.out) hf6 hqb6).mono ?_); rintro e u27 ⟨uA2, uc2, uA5, uc5, uA6, uc6, a1, a2, rfl, hO2, hO5, hO6, ha0, ha1, ha2, hb⟩; replace Hw : Hid (Owns u27 (.r [.i f0, .l N1, .l L2, .l L3, .l L4]) [.int .i64 f0, .slice wA1 m1 wc1, .slice wA2 n2 wc2, .slice wA3 n3 wc3, .slice wA4 n4 wc4] (fun b => (w2.heap.size ≤ b ∧ b ≠ gw) ∧ b < w3.heap.size)) := Lib.hid (Hw.out.below hb); replace Hx : Hid (Owns u27 (.r [.i f0, .l L1, .l L2, .l L3, .l L4]) [.int .i64 f0, .slice xA1 n1 xc1, .slice xA2 n2 xc2, .slice xA3 n3 xc3, .slice xA4 n4 xc4] (rng (w3.heap.size) (w4.heap.size))) := Lib.hid (Hx.out.below hb); replace Hz : Hid (Owns u27 (.r [.i g0, .i g1, .l M2, .i g3, .r [.i g4_0, .i g4_1], .l M5, .l M6, .i g7, .i g8, .i g9, .i g10]) [.int .i64 g0, .int .i64 g1, .slice zA2 m2 zc2, .int .i64 g3, .int .i64 g4_0, .int .i64 g4_1, .slice zA5 m5 zc5, .slice zA6 m6 zc6, .int .i64 g7, .int .i64 g8, .int .i64 g9, .int .i64 g10] (rng (w4.heap.size + 1) (w5.heap.size))) := Lib.hid (Hz.out.below hb); replace Hg : Hid (Owns u27 (.r [.i f0, .l N1, .l L2, .l L3, .l L4]) [.int .i64 f0, .slice gA1 m1 gc1, .slice gA2 n2 gc2, .slice gA3 n3 gc3, .slice gA4 n4 gc4] (rng (w5.heap.size + 1) (w6.heap.size))) := Lib.hid (Hg.out.below hb); replace Ba : Hid (Box (W.heap.size) [.int .i64 f0, .slice A1 n1 c1, .slice A2 n2 c2, .slice A3 n3 c3, .slice A4 n4 c4] u27) := Lib.hid (Ba.out.below hb); replace Bb : Hid (Box (W.heap.size + 1) [.int .i64 g0, .int .i64 g1, .slice D2 m2 j2, .int .i64 g3, .int .i64 g4_0, .int .i64 g4_1, .slice D5 m5 j5, .slice D6 m6 j6, .int .i64 g7, .int .i64 g8, .int .i64 g9, .int .i64 g10] u27) := Lib.hid (Bb.out.below hb); replace Bw : Hid (Box (gw) [.int .i64 f0, .slice wA1 m1 wc1, .slice wA2 n2 wc2, .slice wA3 n3 wc3, .slice wA4 n4 wc4] u27) := Lib.hid (Bw.out.below hb); replace Bx : Hid (Box (w4.heap.size) [.int .i64 f0, .slice xA1 n1 xc1, .slice xA2 n2 xc2, .slice xA3 n3 xc3, .slice xA4 n4 xc4] u27) := Lib.hid (Bx.out.below hb); replace Bz : Hid (Box (w5.heap.size) [.int .i64 g0, .int .i64 g1, .slice zA2 m2 zc2, .int .i64 g3, .int .i64 g4_0, .int .i64 g4_1, .slice zA5 m5 zc5, .slice zA6 m6 zc6, .int .i64 g7, .int .i64 g8, .int .i64 g9, .int .i64 g10] u27) := Lib.hid (Bz.out.below hb); replace Bg : Hid (Box (w6.heap.size) [.int .i64 f0, .slice gA1 m1 gc1, .slice gA2 n2 gc2, .slice gA3 n3 gc3, .slice gA4 n4 gc4] u27) := Lib.hid (Bg.out.below hb); replace HT : Hid (Below W.heap.size W u27) := Lib.hid (HT.out.trans (hb.mono HT.out.size)); have hsu27 : u18.heap.size ≤ u27.heap.size := (by have h1 := hb.size; (try simp only [World.size_alloc, World.size_drew] at h1); exact h1); have Hu : Hid (Owns u27 (.r [.i g0, .i g1, .l M2, .i g3, .r [.i g4_0, .i g4_1], .l M5, .l M6, .i g7, .i g8, .i g9, .i g10]) [.int .i64 g0, .int .i64 g1, .slice uA2 m2 uc2, .int .i64 g3, .int .i64 g4_0, .int .i64 g4_1, .slice uA5 m5 uc5, .slice uA6 m6 uc6, .int .i64 g7, .int .i64 g8, .int .i64 g9, .int .i64 g10] (rng (u18.heap.size) (u27.heap.size))) := Lib.hid (by refine Owns.mono (fun b hb => ?_) (ownEntity hO2 hO5 hO6 ha0 ha1 ha2); have h1 := hb.1; have h2 := hb.2; (try simp only [World.size_alloc, World.size_drew] at h1 h2); exact ⟨by omega, by omega⟩); clear hO2 hO5 hO6 ha0 ha1 ha2 hb)
            | (go_at_call 38; (with_reducible refine (eqEntity g0 g1 M2 zA2 m2 zc2 g3 g4_0 g4_1 M5 zA5 m5 zc5 M6 zA6 m6 zc6 g7 g8 g9 g10 uA2 uc2 uA5 uc5 uA6 uc6 _ (liesEntity2 Hz.out) (liesEntity2 Hu.out) hf2 hb2 (liesEntity5 Hz.out) (liesEntity5 Hu.out) hf5 hb5 (liesEntity6 Hz.out) (liesEntity6 Hu.out) hf6 hb6).mono ?_); rintro e u28 ⟨rfl, hb⟩; replace Hw : Hid (Owns u28 (.r [.i f0, .l N1, .l L2, .l L3, .l L4]) [.int .i64 f0, .slice wA1 m1 wc1, .slice wA2 n2 wc2, .slice wA3 n3 wc3, .slice wA4 n4 wc4] (fun b => (w2.heap.size ≤ b ∧ b ≠ gw) ∧ b < w3.heap.size)) := Lib.hid (Hw.out.below hb); replace Hx : Hid (Owns u28 (.r [.i f0, .l L1, .l L2, .l L3, .l L4]) [.int .i64 f0, .slice xA1 n1 xc1, .slice xA2 n2 xc2, .slice xA3 n3 xc3, .slice xA4 n4 xc4] (rng (w3.heap.size) (w4.heap.size))) := Lib.hid (Hx.out.below hb); replace Hz : Hid (Owns u28 (.r [.i g0, .i g1, .l M2, .i g3, .r [.i g4_0, .i g4_1], .l M5, .l M6, .i g7, .i g8, .i g9, .i g10]) [.int .i64 g0, .int .i64 g1, .slice zA2 m2 zc2, .int .i64 g3, .int .i64 g4_0, .int .i64 g4_1, .slice zA5 m5 zc5, .slice zA6 m6 zc6, .int .i64 g7, .int .i64 g8, .int .i64 g9, .int .i64 g10] (rng (w4.heap.size + 1) (w5.heap.size))) := Lib.hid (Hz.out.below hb); replace Hg : Hid (Owns u28 (.r [.i f0, .l N1, .l L2, .l L3, .l L4]) [.int .i64 f0, .slice gA1 m1 gc1, .slice gA2 n2 gc2, .slice gA3 n3 gc3, .slice gA4 n4 gc4] (rng (w5.heap.size + 1) (w6.heap.size))) := Lib.hid (Hg.out.below hb); replace Hu : Hid (Owns u28 (.r [.i g0, .i g1, .l M2, .i g3, .r [.i g4_0, .i g4_1], .l M5, .l M6, .i g7, .i g8, .i g9, .i g10]) [.int .i64 g0, .int .i64 g1, .slice uA2 m2 uc2, .int .i64 g3, .int .i64 g4_0, .int .i64 g4_1, .slice uA5 m5 uc5, .slice uA6 m6 uc6, .int .i64 g7, .int .i64 g8, .int .i64 g9, .int .i64 g10] (rng (u18.heap.size) (u27.heap.size))) := Lib.hid (Hu.out.below hb); replace Ba : Hid (Box (W.heap.size) [.int .i64 f0, .slice A1 n1 c1, .slice A2 n2 c2, .slice A3 n3 c3, .slice A4 n4 c4] u28) := Lib.hid (Ba.out.below hb); replace Bb : Hid (Box (W.heap.size + 1) [.int .i64 g0, .int .i64 g1, .slice D2 m2 j2, .int .i64 g3, .int .i64 g4_0, .int .i64 g4_1, .slice D5 m5 j5, .slice D6 m6 j6, .int .i64 g7, .int .i64 g8, .int .i64 g9, .int .i64 g10] u28) := Lib.hid (Bb.out.below hb); replace Bw : Hid (Box (gw) [.int .i64 f0, .slice wA1 m1 wc1, .slice wA2 n2 wc2, .slice wA3 n3 wc3, .slice wA4 n4 wc4] u28) := Lib.hid (Bw.out.below hb); replace Bx : Hid (Box (w4.heap.size) [.int .i64 f0, .slice xA1 n1 xc1, .slice xA2 n2 xc2, .slice xA3 n3 xc3, .slice xA4 n4 xc4] u28) := Lib.hid (Bx.out.below hb); replace Bz : Hid (Box (w5.heap.size) [.int .i64 g0, .int .i64 g1, .slice zA2 m2 zc2, .int .i64 g3, .int .i64 g4_0, .int .i64 g4_1, .slice zA5 m5 zc5, .slice zA6 m6 zc6, .int .i64 g7, .int .i64 g8, .int .i64 g9, .int .i64 g10] u28) := Lib.hid (Bz.out.below hb); replace Bg : Hid (Box (w6.heap.size) [.int .i64 f0, .slice gA1 m1 gc1, .slice gA2 n2 gc2, .slice gA3 n3 gc3, .slice gA4 n4 gc4] u28) := Lib.hid (Bg.out.below hb); replace HT : Hid (Below W.heap.size W u28) := Lib.hid (HT.out.trans (hb.mono HT.out.size)); have hsu28 : u27.heap.size ≤ u28.heap.size := hb.size; clear hb))
          all_goals (
            clear Hu
            obtain ⟨zx0, zx1, zx2, zx3, zx4⟩ := Bx.out.c5
            go_wp2_with fail
            refine (markRVat f0 L1 xA1 n1 xc1 L2 xA2 n2 xc2 L3 xA3 n3 xc3 L4 xA4 n4 xc4 (1) (rng (w3.heap.size) (w4.heap.size)) _ Hx.out ht1 hN1 ht2 hN2 ht3 hN3 ht4 hN4 (by omega) (by omega) (fun b hb => by have hA := hb.1; have hB := hb.2; omega)).mono ?_
            rintro e w28 ⟨rfl, hO, hT⟩
            clear zx0 zx1 zx2 zx3 zx4
            replace Hw : Hid (Owns w28 (.r [.i f0, .l N1, .l L2, .l L3, .l L4]) [.int .i64 f0, .slice wA1 m1 wc1, .slice wA2 n2 wc2, .slice wA3 n3 wc3, .slice wA4 n4 wc4] (fun b => (w2.heap.size ≤ b ∧ b ≠ gw) ∧ b < w3.heap.size)) := Lib.hid (Hw.out.touch hT (fun b h1 h2 => by have pA := h1.1.1; have pB := h1.2; have pC := h1.1.2; have qA := h2.1; have qB := h2.2; omega))
            replace Hz : Hid (Owns w28 (.r [.i g0, .i g1, .l M2, .i g3, .r [.i g4_0, .i g4_1], .l M5, .l M6, .i g7, .i g8, .i g9, .i g10]) [.int .i64 g0, .int .i64 g1, .slice zA2 m2 zc2, .int .i64 g3, .int .i64 g4_0, .int .i64 g4_1, .slice zA5 m5 zc5, .slice zA6 m6 zc6, .int .i64 g7, .int .i64 g8, .int .i64 g9, .int .i64 g10] (rng (w4.heap.size + 1) (w5.heap.size))) := Lib.hid (Hz.out.touch hT (fun b h1 h2 => by have pA := h1.1; have pB := h1.2; have qA := h2.1; have qB := h2.2; omega))
            replace Hg : Hid (Owns w28 (.r [.i f0, .l N1, .l L2, .l L3, .l L4]) [.int .i64 f0, .slice gA1 m1 gc1, .slice gA2 n2 gc2, .slice gA3 n3 gc3, .slice gA4 n4 gc4] (rng (w5.heap.size + 1) (w6.heap.size))) := Lib.hid (Hg.out.touch hT (fun b h1 h2 => by have pA := h1.1; have pB := h1.2; have qA := h2.1; have qB := h2.2; omega))
            replace Ba : Hid (Box (W.heap.size) [.int .i64 f0, .slice A1 n1 c1, .slice A2 n2 c2, .slice A3 n3 c3, .slice A4 n4 c4] w28) := Lib.hid (Ba.out.touch hT (fun h2 => by have qA := h2.1; have qB := h2.2; omega))
            replace Bb : Hid (Box (W.heap.size + 1) [.int .i64 g0, .int .i64 g1, .slice D2 m2 j2, .int .i64 g3, .int .i64 g4_0, .int .i64 g4_1, .slice D5 m5 j5, .slice D6 m6 j6, .int .i64 g7, .int .i64 g8, .int .i64 g9, .int .i64 g10] w28) := Lib.hid (Bb.out.touch hT (fun h2 => by have qA := h2.1; have qB := h2.2; omega))
            replace Bw : Hid (Box (gw) [.int .i64 f0, .slice wA1 m1 wc1, .slice wA2 n2 wc2, .slice wA3 n3 wc3, .slice wA4 n4 wc4] w28) := Lib.hid (Bw.out.touch hT (fun h2 => by have qA := h2.1; have qB := h2.2; omega))
            replace Bx : Hid (Box (w4.heap.size) [.int .i64 f0, .slice xA1 n1 xc1, .slice xA2 n2 xc2, .slice xA3 n3 xc3, .slice xA4 n4 xc4] w28) := Lib.hid (Bx.out.touch hT (fun h2 => by have qA := h2.1; have qB := h2.2; omega))
            replace Bz : Hid (Box (w5.heap.size) [.int .i64 g0, .int .i64 g1, .slice zA2 m2 zc2, .int .i64 g3, .int .i64 g4_0, .int .i64 g4_1, .slice zA5 m5 zc5, .slice zA6 m6 zc6, .int .i64 g7, .int .i64 g8, .int .i64 g9, .int .i64 g10] w28) := Lib.hid (Bz.out.touch hT (fun h2 => by have qA := h2.1; have qB := h2.2; omega))
            replace Bg : Hid (Box (w6.heap.size) [.int .i64 f0, .slice gA1 m1 gc1, .slice gA2 n2 gc2, .slice gA3 n3 gc3, .slice gA4 n4 gc4] w28) := Lib.hid (Bg.out.touch hT (fun h2 => by have qA := h2.1; have qB := h2.2; omega))
            replace HT : Hid (Below W.heap.size W w28) := Lib.hid (HT.out.trans (hT.below (fun b h2 => by have qA := h2.1; have qB := h2.2; omega) HT.out.size))
            have hsw28 : u28.heap.size ≤ w28.heap.size := hT.size
            replace Hx : Hid (Owns w28 (.r [.i f0, .l (mkAll L1 (1)), .l (mkAll L2 (1 + cntAll L1)), .l (mkAll L3 (1 + cntAll L1 + cntAll L2)), .l (mkAll L4 (1 + cntAll L1 + cntAll L2 + cntAll L3))]) [.int .i64 f0, .slice xA1 n1 xc1, .slice xA2 n2 xc2, .slice xA3 n3 xc3, .slice xA4 n4 xc4] (rng (w3.heap.size) (w4.heap.size))) := Lib.hid hO
            clear hO hT
            have hk1 : (0 : Int) ≤ 1 + cntAll L1 + cntAll L2 + cntAll L3 + cntAll L4 := by omega
            obtain ⟨zz0, zz1, zz2, zz3, zz4, zz5, zz6, zz7, zz8, zz9, zz10, zz11⟩ := Bz.out.c12
            go_wp2_with fail
            refine (markREntity g0 g1 M2 zA2 m2 zc2 g3 g4_0 g4_1 M5 zA5 m5 zc5 M6 zA6 m6 zc6 g7 g8 g9 g10 (1 + cntAll L1 + cntAll L2 + cntAll L3 + cntAll L4) (rng (w4.heap.size + 1) (w5.heap.size)) _ Hz.out hf2 hP2 hf5 hP5 hf6 hP6 (by omega) (by omega) (fun b hb => by have hA := hb.1; have hB := hb.2; omega)).mono ?_
            rintro e w29 ⟨rfl, hO, hT⟩
            clear zz0 zz1 zz2 zz3 zz4 zz5 zz6 zz7 zz8 zz9 zz10 zz11
            replace Hw : Hid (Owns w29 (.r [.i f0, .l N1, .l L2, .l L3, .l L4]) [.int .i64 f0, .slice wA1 m1 wc1, .slice wA2 n2 wc2, .slice wA3 n3 wc3, .slice wA4 n4 wc4] (fun b => (w2.heap.size ≤ b ∧ b ≠ gw) ∧ b < w3.heap.size)) := Lib.hid (Hw.out.touch hT (fun b h1 h2 => by have pA := h1.1.1; have pB := h1.2; have pC := h1.1.2; have qA := h2.1; have qB := h2.2; omega))
            replace Hx : Hid (Owns w29 (.r [.i f0, .l (mkAll L1 (1)), .l (mkAll L2 (1 + cntAll L1)), .l (mkAll L3 (1 + cntAll L1 + cntAll L2)), .l (mkAll L4 (1 + cntAll L1 + cntAll L2 + cntAll L3))]) [.int .i64 f0, .slice xA1 n1 xc1, .slice xA2 n2 xc2, .slice xA3 n3 xc3, .slice xA4 n4 xc4] (rng (w3.heap.size) (w4.heap.size))) := Lib.hid (Hx.out.touch hT (fun b h1 h2 => by have pA := h1.1; have pB := h1.2; have qA := h2.1; have qB := h2.2; omega))
            replace Hg : Hid (Owns w29 (.r [.i f0, .l N1, .l L2, .l L3, .l L4]) [.int .i64 f0, .slice gA1 m1 gc1, .slice gA2 n2 gc2, .slice gA3 n3 gc3, .slice gA4 n4 gc4] (rng (w5.heap.size + 1) (w6.heap.size))) := Lib.hid (Hg.out.touch hT (fun b h1 h2 => by have pA := h1.1; have pB := h1.2; have qA := h2.1; have qB := h2.2; omega))
            replace Ba : Hid (Box (W.heap.size) [.int .i64 f0, .slice A1 n1 c1, .slice A2 n2 c2, .slice A3 n3 c3, .slice A4 n4 c4] w29) := Lib.hid (Ba.out.touch hT (fun h2 => by have qA := h2.1; have qB := h2.2; omega))
            replace Bb : Hid (Box (W.heap.size + 1) [.int .i64 g0, .int .i64 g1, .slice D2 m2 j2, .int .i64 g3, .int .i64 g4_0, .int .i64 g4_1, .slice D5 m5 j5, .slice D6 m6 j6, .int .i64 g7, .int .i64 g8, .int .i64 g9, .int .i64 g10] w29) := Lib.hid (Bb.out.touch hT (fun h2 => by have qA := h2.1; have qB := h2.2; omega))
            replace Bw : Hid (Box (gw) [.int .i64 f0, .slice wA1 m1 wc1, .slice wA2 n2 wc2, .slice wA3 n3 wc3, .slice wA4 n4 wc4] w29) := Lib.hid (Bw.out.touch hT (fun h2 => by have qA := h2.1; have qB := h2.2; omega))
            replace Bx : Hid (Box (w4.heap.size) [.int .i64 f0, .slice xA1 n1 xc1, .slice xA2 n2 xc2, .slice xA3 n3 xc3, .slice xA4 n4 xc4] w29) := Lib.hid (Bx.out.touch hT (fun h2 => by have qA := h2.1; have qB := h2.2; omega))
            replace Bz : Hid (Box (w5.heap.size) [.int .i64 g0, .int .i64 g1, .slice zA2 m2 zc2, .int .i64 g3, .int .i64 g4_0, .int .i64 g4_1, .slice zA5 m5 zc5, .slice zA6 m6 zc6, .int .i64 g7, .int .i64 g8, .int .i64 g9, .int .i64 g10] w29) := Lib.hid (Bz.out.touch hT (fun h2 => by have qA := h2.1; have qB := h2.2; omega))
            replace Bg : Hid (Box (w6.heap.size) [.int .i64 f0, .slice gA1 m1 gc1, .slice gA2 n2 gc2, .slice gA3 n3 gc3, .slice gA4 n4 gc4] w29) := Lib.hid (Bg.out.touch hT (fun h2 => by have qA := h2.1; have qB := h2.2; omega))
            replace HT : Hid (Below W.heap.size W w29) := Lib.hid (HT.out.trans (hT.below (fun b h2 => by have qA := h2.1; have qB := h2.2; omega) HT.out.size))
            have hsw29 : w28.heap.size ≤ w29.heap.size := hT.size
            replace Hz : Hid (Owns w29 (.r [.i g0, .i g1, .l (mkAll M2 (1 + cntAll L1 + cntAll L2 + cntAll L3 + cntAll L4)), .i g3, .r [.i g4_0, .i g4_1], .l (mkAll M5 (1 + cntAll L1 + cntAll L2 + cntAll L3 + cntAll L4 + cntAll M2)), .l (mkAll M6 (1 + cntAll L1 + cntAll L2 + cntAll L3 + cntAll L4 + cntAll M2 + cntAll M5)), .i g7, .i g8, .i g9, .i g10]) [.int .i64 g0, .int .i64 g1, .slice zA2 m2 zc2, .int .i64 g3, .int .i64 g4_0, .int .i64 g4_1, .slice zA5 m5 zc5, .slice zA6 m6 zc6, .int .i64 g7, .int .i64 g8, .int .i64 g9, .int .i64 g10] (rng (w4.heap.size + 1) (w5.heap.size))) := Lib.hid hO
            clear hO hT
            have hka : (0 : Int) ≤ 1 + cntAll L1 + cntAll L2 + cntAll L3 + cntAll L4 + cntAll M2 + cntAll M5 + cntAll M6 := by omega
            have hkb : (decide ((1 + cntAll L1 + cntAll L2 + cntAll L3 + cntAll L4 + cntAll M2 + cntAll M5 + cntAll M6) < 0)) = false := by (simp; try omega)
            obtain ⟨zg0, zg1, zg2, zg3, zg4⟩ := Bg.out.c5
            obtain ⟨zw0, zw1, zw2, zw3, zw4⟩ := Bw.out.c5
            go_wp2_with fail
            refine (eqVat f0 N1 gA1 m1 gc1 L2 gA2 n2 gc2 L3 gA3 n3 gc3 L4 gA4 n4 gc4 wA1 wc1 wA2 wc2 wA3 wc3 wA4 wc4 _ (liesVat1 Hg.out) (liesVat1 Hw.out) htN1 hmN1 (liesVat2 Hg.out) (liesVat2 Hw.out) ht2 hm2 (liesVat3 Hg.out) (liesVat3 Hw.out) ht3 hm3 (liesVat4 Hg.out) (liesVat4 Hw.out) ht4 hm4).mono ?_
            rintro e w30 ⟨rfl, hb⟩
            clear zg0 zg1 zg2 zg3 zg4
            clear zw0 zw1 zw2 zw3 zw4
            replace Hw : Hid (Owns w30 (.r [.i f0, .l N1, .l L2, .l L3, .l L4]) [.int .i64 f0, .slice wA1 m1 wc1, .slice wA2 n2 wc2, .slice wA3 n3 wc3, .slice wA4 n4 wc4] (fun b => (w2.heap.size ≤ b ∧ b ≠ gw) ∧ b < w3.heap.size)) := Lib.hid (Hw.out.below hb)
            replace Hx : Hid (Owns w30 (.r [.i f0, .l (mkAll L1 (1)), .l (mkAll L2 (1 + cntAll L1)), .l (mkAll L3 (1 + cntAll L1 + cntAll L2)), .l (mkAll L4 (1 + cntAll L1 + cntAll L2 + cntAll L3))]) [.int .i64 f0, .slice xA1 n1 xc1, .slice xA2 n2 xc2, .slice xA3 n3 xc3, .slice xA4 n4 xc4] (rng (w3.heap.size) (w4.heap.size))) := Lib.hid (Hx.out.below hb)
            replace Hz : Hid (Owns w30 (.r [.i g0, .i g1, .l (mkAll M2 (1 + cntAll L1 + cntAll L2 + cntAll L3 + cntAll L4)), .i g3, .r [.i g4_0, .i g4_1], .l (mkAll M5 (1 + cntAll L1 + cntAll L2 + cntAll L3 + cntAll L4 + cntAll M2)), .l (mkAll M6 (1 + cntAll L1 + cntAll L2 + cntAll L3 + cntAll L4 + cntAll M2 + cntAll M5)), .i g7, .i g8, .i g9, .i g10]) [.int .i64 g0, .int .i64 g1, .slice zA2 m2 zc2, .int .i64 g3, .int .i64 g4_0, .int .i64 g4_1, .slice zA5 m5 zc5, .slice zA6 m6 zc6, .int .i64 g7, .int .i64 g8, .int .i64 g9, .int .i64 g10] (rng (w4.heap.size + 1) (w5.heap.size))) := Lib.hid (Hz.out.below hb)
            replace Hg : Hid (Owns w30 (.r [.i f0, .l N1, .l L2, .l L3, .l L4]) [.int .i64 f0, .slice gA1 m1 gc1, .slice gA2 n2 gc2, .slice gA3 n3 gc3, .slice gA4 n4 gc4] (rng (w5.heap.size + 1) (w6.heap.size))) := Lib.hid (Hg.out.below hb)
            replace Ba : Hid (Box (W.heap.size) [.int .i64 f0, .slice A1 n1 c1, .slice A2 n2 c2, .slice A3 n3 c3, .slice A4 n4 c4] w30) := Lib.hid (Ba.out.below hb)
            replace Bb : Hid (Box (W.heap.size + 1) [.int .i64 g0, .int .i64 g1, .slice D2 m2 j2, .int .i64 g3, .int .i64 g4_0, .int .i64 g4_1, .slice D5 m5 j5, .slice D6 m6 j6, .int .i64 g7, .int .i64 g8, .int .i64 g9, .int .i64 g10] w30) := Lib.hid (Bb.out.below hb)
            replace Bw : Hid (Box (gw) [.int .i64 f0, .slice wA1 m1 wc1, .slice wA2 n2 wc2, .slice wA3 n3 wc3, .slice wA4 n4 wc4] w30) := Lib.hid (Bw.out.below hb)
            replace Bx : Hid (Box (w4.heap.size) [.int .i64 f0, .slice xA1 n1 xc1, .slice xA2 n2 xc2, .slice xA3 n3 xc3, .slice xA4 n4 xc4] w30) := Lib.hid (Bx.out.below hb)
            replace Bz : Hid (Box (w5.heap.size) [.int .i64 g0, .int .i64 g1, .slice zA2 m2 zc2, .int .i64 g3, .int .i64 g4_0, .int .i64 g4_1, .slice zA5 m5 zc5, .slice zA6 m6 zc6, .int .i64 g7, .int .i64 g8, .int .i64 g9, .int .i64 g10] w30) := Lib.hid (Bz.out.below hb)
            replace Bg : Hid (Box (w6.heap.size) [.int .i64 f0, .slice gA1 m1 gc1, .slice gA2 n2 gc2, .slice gA3 n3 gc3, .slice gA4 n4 gc4] w30) := Lib.hid (Bg.out.below hb)
            replace HT : Hid (Below W.heap.size W w30) := Lib.hid (HT.out.trans (hb.mono HT.out.size))
            have hsw30 : w29.heap.size ≤ w30.heap.size := (by have h1 := hb.size; (try simp only [World.size_alloc, World.size_drew] at h1); exact h1)
            clear hb
            clear Hx
            clear Hz
            clear hka hkb hk1
            obtain ⟨zg0, zg1, zg2, zg3, zg4⟩ := Bg.out.c5
            go_wp2_with fail
            refine (markRVat f0 N1 gA1 m1 gc1 L2 gA2 n2 gc2 L3 gA3 n3 gc3 L4 gA4 n4 gc4 (1) (rng (w5.heap.size + 1) (w6.heap.size)) _ Hg.out htN1 hNN1 ht2 hN2 ht3 hN3 ht4 hN4 (by omega) (by omega) (fun b hb => by have hA := hb.1; have hB := hb.2; omega)).mono ?_
            rintro e w31 ⟨rfl, hO, hT⟩
            clear zg0 zg1 zg2 zg3 zg4
            replace Hw : Hid (Owns w31 (.r [.i f0, .l N1, .l L2, .l L3, .l L4]) [.int .i64 f0, .slice wA1 m1 wc1, .slice wA2 n2 wc2, .slice wA3 n3 wc3, .slice wA4 n4 wc4] (fun b => (w2.heap.size ≤ b ∧ b ≠ gw) ∧ b < w3.heap.size)) := Lib.hid (Hw.out.touch hT (fun b h1 h2 => by have pA := h1.1.1; have pB := h1.2; have pC := h1.1.2; have qA := h2.1; have qB := h2.2; omega))
            replace Ba : Hid (Box (W.heap.size) [.int .i64 f0, .slice A1 n1 c1, .slice A2 n2 c2, .slice A3 n3 c3, .slice A4 n4 c4] w31) := Lib.hid (Ba.out.touch hT (fun h2 => by have qA := h2.1; have qB := h2.2; omega))
            replace Bb : Hid (Box (W.heap.size + 1) [.int .i64 g0, .int .i64 g1, .slice D2 m2 j2, .int .i64 g3, .int .i64 g4_0, .int .i64 g4_1, .slice D5 m5 j5, .slice D6 m6 j6, .int .i64 g7, .int .i64 g8, .int .i64 g9, .int .i64 g10] w31) := Lib.hid (Bb.out.touch hT (fun h2 => by have qA := h2.1; have qB := h2.2; omega))
            replace Bw : Hid (Box (gw) [.int .i64 f0, .slice wA1 m1 wc1, .slice wA2 n2 wc2, .slice wA3 n3 wc3, .slice wA4 n4 wc4] w31) := Lib.hid (Bw.out.touch hT (fun h2 => by have qA := h2.1; have qB := h2.2; omega))
            replace Bx : Hid (Box (w4.heap.size) [.int .i64 f0, .slice xA1 n1 xc1, .slice xA2 n2 xc2, .slice xA3 n3 xc3, .slice xA4 n4 xc4] w31) := Lib.hid (Bx.out.touch hT (fun h2 => by have qA := h2.1; have qB := h2.2; omega))
            replace Bz : Hid (Box (w5.heap.size) [.int .i64 g0, .int .i64 g1, .slice zA2 m2 zc2, .int .i64 g3, .int .i64 g4_0, .int .i64 g4_1, .slice zA5 m5 zc5, .slice zA6 m6 zc6, .int .i64 g7, .int .i64 g8, .int .i64 g9, .int .i64 g10] w31) := Lib.hid (Bz.out.touch hT (fun h2 => by have qA := h2.1; have qB := h2.2; omega))
            replace Bg : Hid (Box (w6.heap.size) [.int .i64 f0, .slice gA1 m1 gc1, .slice gA2 n2 gc2, .slice gA3 n3 gc3, .slice gA4 n4 gc4] w31) := Lib.hid (Bg.out.touch hT (fun h2 => by have qA := h2.1; have qB := h2.2; omega))
            replace HT : Hid (Below W.heap.size W w31) := Lib.hid (HT.out.trans (hT.below (fun b h2 => by have qA := h2.1; have qB := h2.2; omega) HT.out.size))
            have hsw31 : w30.heap.size ≤ w31.heap.size := hT.size
            replace Hg : Hid (Owns w31 (.r [.i f0, .l (mkAll N1 (1)), .l (mkAll L2 (1 + cntAll N1)), .l (mkAll L3 (1 + cntAll N1 + cntAll L2)), .l (mkAll L4 (1 + cntAll N1 + cntAll L2 + cntAll L3))]) [.int .i64 f0, .slice gA1 m1 gc1, .slice gA2 n2 gc2, .slice gA3 n3 gc3, .slice gA4 n4 gc4] (rng (w5.heap.size + 1) (w6.heap.size))) := Lib.hid hO
            clear hO hT
            have hka : (0 : Int) ≤ 1 + cntAll N1 + cntAll L2 + cntAll L3 + cntAll L4 := by omega
            have hkb : (decide ((1 + cntAll N1 + cntAll L2 + cntAll L3 + cntAll L4) < 0)) = false := by (simp; try omega)
            obtain ⟨zg0, zg1, zg2, zg3, zg4⟩ := Bg.out.c5
            go_wp2_with fail
            refine (heldRVat f0 N1 gA1 m1 gc1 L2 gA2 n2 gc2 L3 gA3 n3 gc3 L4 gA4 n4 gc4 (1) _ (liesVat1 Hg.out) (liesVat2 Hg.out) (liesVat3 Hg.out) (liesVat4 Hg.out) htN1 hNN1 ht2 hN2 ht3 hN3 ht4 hN4 (by omega) (by omega)).mono ?_
            rintro e w32 ⟨rfl, hb⟩
            clear zg0 zg1 zg2 zg3 zg4
            replace Hw : Hid (Owns w32 (.r [.i f0, .l N1, .l L2, .l L3, .l L4]) [.int .i64 f0, .slice wA1 m1 wc1, .slice wA2 n2 wc2, .slice wA3 n3 wc3, .slice wA4 n4 wc4] (fun b => (w2.heap.size ≤ b ∧ b ≠ gw) ∧ b < w3.heap.size)) := Lib.hid (Hw.out.below hb)
            replace Hg : Hid (Owns w32 (.r [.i f0, .l (mkAll N1 (1)), .l (mkAll L2 (1 + cntAll N1)), .l (mkAll L3 (1 + cntAll N1 + cntAll L2)), .l (mkAll L4 (1 + cntAll N1 + cntAll L2 + cntAll L3))]) [.int .i64 f0, .slice gA1 m1 gc1, .slice gA2 n2 gc2, .slice gA3 n3 gc3, .slice gA4 n4 gc4] (rng (w5.heap.size + 1) (w6.heap.size))) := Lib.hid (Hg.out.below hb)
            replace Ba : Hid (Box (W.heap.size) [.int .i64 f0, .slice A1 n1 c1, .slice A2 n2 c2, .slice A3 n3 c3, .slice A4 n4 c4] w32) := Lib.hid (Ba.out.below hb)
            replace Bb : Hid (Box (W.heap.size + 1) [.int .i64 g0, .int .i64 g1, .slice D2 m2 j2, .int .i64 g3, .int .i64 g4_0, .int .i64 g4_1, .slice D5 m5 j5, .slice D6 m6 j6, .int .i64 g7, .int .i64 g8, .int .i64 g9, .int .i64 g10] w32) := Lib.hid (Bb.out.below hb)
            replace Bw : Hid (Box (gw) [.int .i64 f0, .slice wA1 m1 wc1, .slice wA2 n2 wc2, .slice wA3 n3 wc3, .slice wA4 n4 wc4] w32) := Lib.hid (Bw.out.below hb)
            replace Bx : Hid (Box (w4.heap.size) [.int .i64 f0, .slice xA1 n1 xc1, .slice xA2 n2 xc2, .slice xA3 n3 xc3, .slice xA4 n4 xc4] w32) := Lib.hid (Bx.out.below hb)
            replace Bz : Hid (Box (w5.heap.size) [.int .i64 g0, .int .i64 g1, .slice zA2 m2 zc2, .int .i64 g3, .int .i64 g4_0, .int .i64 g4_1, .slice zA5 m5 zc5, .slice zA6 m6 zc6, .int .i64 g7, .int .i64 g8, .int .i64 g9, .int .i64 g10] w32) := Lib.hid (Bz.out.below hb)
            replace Bg : Hid (Box (w6.heap.size) [.int .i64 f0, .slice gA1 m1 gc1, .slice gA2 n2 gc2, .slice gA3 n3 gc3, .slice gA4 n4 gc4] w32) := Lib.hid (Bg.out.below hb)
            replace HT : Hid (Below W.heap.size W w32) := Lib.hid (HT.out.trans (hb.mono HT.out.size))
            have hsw32 : w31.heap.size ≤ w32.heap.size := (by have h1 := hb.size; (try simp only [World.size_alloc, World.size_drew] at h1); exact h1)
            clear hb
            go_upto_region 31 with (fail)
            have HS : Hid (∀ w' : World, Below w32.heap.size w32 w' → ((w'.cell? ⟨W.heap.size, 0, none⟩ = some (.int .i64 f0) ∧ w'.cell? ⟨W.heap.size, 1, none⟩ = some (.slice A1 n1 c1) ∧ w'.cell? ⟨W.heap.size, 2, none⟩ = some (.slice A2 n2 c2) ∧ w'.cell? ⟨W.heap.size, 3, none⟩ = some (.slice A3 n3 c3) ∧ w'.cell? ⟨W.heap.size, 4, none⟩ = some (.slice A4 n4 c4)) ∧ (w'.cell? ⟨W.heap.size + 1, 0, none⟩ = some (.int .i64 g0) ∧ w'.cell? ⟨W.heap.size + 1, 1, none⟩ = some (.int .i64 g1) ∧ w'.cell? ⟨W.heap.size + 1, 2, none⟩ = some (.slice D2 m2 j2) ∧ w'.cell? ⟨W.heap.size + 1, 3, none⟩ = some (.int .i64 g3) ∧ w'.cell? ⟨W.heap.size + 1, 4, none⟩ = some (.int .i64 g4_0) ∧ w'.cell? ⟨W.heap.size + 1, 5, none⟩ = some (.int .i64 g4_1) ∧ w'.cell? ⟨W.heap.size + 1, 6, none⟩ = some (.slice D5 m5 j5) ∧ w'.cell? ⟨W.heap.size + 1, 7, none⟩ = some (.slice D6 m6 j6) ∧ w'.cell? ⟨W.heap.size + 1, 8, none⟩ = some (.int .i64 g7) ∧ w'.cell? ⟨W.heap.size + 1, 9, none⟩ = some (.int .i64 g8) ∧ w'.cell? ⟨W.heap.size + 1, 10, none⟩ = some (.int .i64 g9) ∧ w'.cell? ⟨W.heap.size + 1, 11, none⟩ = some (.int .i64 g10)))) := Lib.hid (fun w' hb => ⟨(Ba.out.below hb).c5, (Bb.out.below hb).c12⟩)
            go_cut [15, 16] from 94 to 101 (fun s15 s16 wq => ∃ (g : Nat) (hA1 : Option Addr) (hc1 : Nat) (hA2 : Option Addr) (hc2 : Nat) (hA3 : Option Addr) (hc3 : Nat) (hA4 : Option Addr) (hc4 : Nat), s15 = .pointer (some ⟨g, 0, none⟩) ∧ s16 = .int .i64 v ∧ Zx g [.int .i64 f0, .slice hA1 m1 hc1, .slice hA2 n2 hc2, .slice hA3 n3 hc3, .slice hA4 n4 hc4] wq ∧ VatX (fun b => w32.heap.size ≤ b ∧ b ≠ g) wq N1 hA1 m1 hc1 L2 hA2 n2 hc2 L3 hA3 n3 hc3 L4 hA4 n4 hc4 ∧ Below w32.heap.size w32 wq)
            case first =>
              have Ja1 := Lib.hid (Za1.out.below HT.out)
              have Ja2 := Lib.hid (Za2.out.below HT.out)
              have Ja3 := Lib.hid (Za3.out.below HT.out)
              have Ja4 := Lib.hid (Za4.out.below HT.out)
              have Jb2 := Lib.hid (Zb2.out.below HT.out)
              have Jb5 := Lib.hid (Zb5.out.below HT.out)
              have Jb6 := Lib.hid (Zb6.out.below HT.out)
              have HB : Hid (Below w32.heap.size w32 w32.drew) := Lib.hid (Below.refl _ _).drew
              refine wp_region_held_drew (S := (fun w' => (w'.cell? ⟨W.heap.size, 0, none⟩ = some (.int .i64 f0) ∧ w'.cell? ⟨W.heap.size, 1, none⟩ = some (.slice A1 n1 c1) ∧ w'.cell? ⟨W.heap.size, 2, none⟩ = some (.slice A2 n2 c2) ∧ w'.cell? ⟨W.heap.size, 3, none⟩ = some (.slice A3 n3 c3) ∧ w'.cell? ⟨W.heap.size, 4, none⟩ = some (.slice A4 n4 c4)) ∧ (w'.cell? ⟨W.heap.size + 1, 0, none⟩ = some (.int .i64 g0) ∧ w'.cell? ⟨W.heap.size + 1, 1, none⟩ = some (.int .i64 g1) ∧ w'.cell? ⟨W.heap.size + 1, 2, none⟩ = some (.slice D2 m2 j2) ∧ w'.cell? ⟨W.heap.size + 1, 3, none⟩ = some (.int .i64 g3) ∧ w'.cell? ⟨W.heap.size + 1, 4, none⟩ = some (.int .i64 g4_0) ∧ w'.cell? ⟨W.heap.size + 1, 5, none⟩ = some (.int .i64 g4_1) ∧ w'.cell? ⟨W.heap.size + 1, 6, none⟩ = some (.slice D5 m5 j5) ∧ w'.cell? ⟨W.heap.size + 1, 7, none⟩ = some (.slice D6 m6 j6) ∧ w'.cell? ⟨W.heap.size + 1, 8, none⟩ = some (.int .i64 g7) ∧ w'.cell? ⟨W.heap.size + 1, 9, none⟩ = some (.int .i64 g8) ∧ w'.cell? ⟨W.heap.size + 1, 10, none⟩ = some (.int .i64 g9) ∧ w'.cell? ⟨W.heap.size + 1, 11, none⟩ = some (.int .i64 g10)))) (by kernel_rfl) ?_ (fun hH0 => ?_)
              · exact HS.out _ HB.out
              refine wpAnyH_take (i := 0) (v := ?_) rfl (by kernel_rfl) (by kernel_rfl) (by kernel_rfl) (fun _ _ _ h => h) (Or.inl ⟨by rfl, ?_⟩) hH0 ?_
              rotate_left
              · intro w hSw; (try dsimp only at hSw); go_simp; (try with_reducible rfl)
              simp only [Act.put, List.setIfInBounds_toArray, List.set_cons_zero, List.set_cons_succ]
              refine wpAnyH_take (i := 2) (v := ?_) rfl (by kernel_rfl) (by kernel_rfl) (by kernel_rfl) (fun _ _ _ h => h) (Or.inl ⟨by rfl, ?_⟩) hH0 ?_
              rotate_left
              · intro w hSw; (try dsimp only at hSw); go_simp; (try with_reducible rfl)
              simp only [Act.put, List.setIfInBounds_toArray, List.set_cons_zero, List.set_cons_succ]
              refine wpAnyH_ready (rs := [1, 8]) (by kernel_rfl) (by simp) ?_
              refine AllReadyH.cons rfl (fun K hK => ?_) ?_
              · (go_simp; go_at_call 30; (with_reducible refine (toVat f0 L1 A1 n1 c1 L2 A2 n2 c2 L3 A3 n3 c3 L4 A4 n4 c4 _ (Ja1.out.below HB.out) ht1 hqa1 (Ja2.out.below HB.out) ht2 hqa2 (Ja3.out.below HB.out) ht3 hqa3 (Ja4.out.below HB.out) ht4 hqa4).mono ?_); rintro e w1q ⟨yaA1, yac1, yaA2, yac2, yaA3, yac3, yaA4, yac4, a1, a2, a3, rfl, hO1, hO2, hO3, hO4, -, -, -, -, hb⟩; (have hz1q := hb.size); (try simp only [World.size_alloc, World.size_drew] at hz1q); (have hy1q := HB.out.size); (try simp only [World.size_alloc, World.size_drew] at hy1q); (have Ya1 := Lib.hid hO1.lies); (have Ya2 := Lib.hid hO2.lies); (have Ya3 := Lib.hid hO3.lies); (have Ya4 := Lib.hid hO4.lies); (replace HB := Lib.hid (HB.out.trans (hb.mono HB.out.size))); clear hb hO1 hO2 hO3 hO4; (try (go_wp2_with fail)))
                refine hK.out _ _ ?_ (fun hH1 => ?_)
                · exact HS.out _ HB.out
                clear hK K hH0
                (try simp only [Act.put, List.setIfInBounds_toArray, List.set_cons_zero, List.set_cons_succ])
                refine wpAnyH_ready (rs := [3, 8]) (by kernel_rfl) (by simp) ?_
                refine AllReadyH.cons rfl (fun K hK => ?_) ?_
                · (go_simp; go_at_call 37; (with_reducible refine (toEntity g0 g1 M2 D2 m2 j2 g3 g4_0 g4_1 M5 D5 m5 j5 M6 D6 m6 j6 g7 g8 g9 g10 _ (Jb2.out.below HB.out) hf2 hqb2 (Jb5.out.below HB.out) hf5 hqb5 (Jb6.out.below HB.out) hf6 hqb6).mono ?_); rintro e w2q ⟨ybA2, ybc2, ybA5, ybc5, ybA6, ybc6, a1, a2, rfl, hO2, hO5, hO6, -, -, -, hb⟩; (have hz2q := hb.size); (try simp only [World.size_alloc, World.size_drew] at hz2q); (have hy2q := HB.out.size); (try simp only [World.size_alloc, World.size_drew] at hy2q); (replace Ya1 := Lib.hid (Ya1.out.below hb)); (replace Ya2 := Lib.hid (Ya2.out.below hb)); (replace Ya3 := Lib.hid (Ya3.out.below hb)); (replace Ya4 := Lib.hid (Ya4.out.below hb)); (have Yb2 := Lib.hid hO2.lies); (have Yb5 := Lib.hid hO5.lies); (have Yb6 := Lib.hid hO6.lies); (replace HB := Lib.hid (HB.out.trans (hb.mono HB.out.size))); clear hb hO2 hO5 hO6; (try (go_wp2_with fail)))
                  refine hK.out _ _ ?_ (fun hH2 => ?_)
                  · exact HS.out _ HB.out
                  clear hK K hH1
                  (try simp only [Act.put, List.setIfInBounds_toArray, List.set_cons_zero, List.set_cons_succ])
                  refine wpAnyH_ready (rs := [4, 8]) (by kernel_rfl) (by simp) ?_
                  refine AllReadyH.cons rfl (fun K hK => ?_) ?_
                  · (go_simp; go_at_call 15; (with_reducible refine (CIM.out yaA1 yac1 yaA2 yac2 yaA3 yac3 yaA4 yac4 ybA2 ybc2 ybA5 ybc5 ybA6 ybc6 _ Ya1.out Ya2.out Ya3.out Ya4.out Yb2.out Yb5.out Yb6.out).mono ?_); rintro e w3q ⟨hA1, hc1, hA2, hc2, hA3, hc3, hA4, hc4, rfl, hV, hb⟩; (have hz3q := hb.size); (try simp only [World.size_alloc, World.size_drew] at hz3q); (have hy3q := HB.out.size); (try simp only [World.size_alloc, World.size_drew] at hy3q); (replace Ya1 := Lib.hid (Ya1.out.below hb)); (replace Ya2 := Lib.hid (Ya2.out.below hb)); (replace Ya3 := Lib.hid (Ya3.out.below hb)); (replace Ya4 := Lib.hid (Ya4.out.below hb)); (replace Yb2 := Lib.hid (Yb2.out.below hb)); (replace Yb5 := Lib.hid (Yb5.out.below hb)); (replace Yb6 := Lib.hid (Yb6.out.below hb)); (have HV9 := Lib.hid hV); (replace HB := Lib.hid (HB.out.trans (hb.mono HB.out.size))); clear hb hV; (try (go_wp2_with fail)))
                    refine hK.out _ _ ?_ (fun hH3 => ?_)
                    · exact HS.out _ HB.out
                    clear hK K hH2
                    (try simp only [Act.put, List.setIfInBounds_toArray, List.set_cons_zero, List.set_cons_succ])
                    refine wpAnyH_take (i := 5) (v := ?_) rfl (by kernel_rfl) (by kernel_rfl) (by kernel_rfl) (fun _ _ _ h => h) (Or.inl ⟨by rfl, ?_⟩) hH3 ?_
                    rotate_left
                    · intro w hSw; (try dsimp only at hSw); go_simp; (try with_reducible rfl)
                    simp only [Act.put, List.setIfInBounds_toArray, List.set_cons_zero, List.set_cons_succ]
                    refine wpAnyH_take (i := 6) (v := ?_) rfl (by kernel_rfl) (by kernel_rfl) (by kernel_rfl) (fun _ _ _ h => h) (Or.inl ⟨by rfl, ?_⟩) hH3 ?_
                    rotate_left
                    · intro w hSw; (try dsimp only at hSw); go_simp; (try with_reducible rfl)
                    simp only [Act.put, List.setIfInBounds_toArray, List.set_cons_zero, List.set_cons_succ]
                    refine wpAnyH_take (i := 7) (v := ?_) rfl (by kernel_rfl) (by kernel_rfl) (by kernel_rfl) (fun _ _ _ h => h) (Or.inl ⟨by rfl, ?_⟩) hH3 ?_
                    rotate_left
                    · intro w hSw; (try dsimp only at hSw); go_simp; (try with_reducible rfl)
                    simp only [Act.put, List.setIfInBounds_toArray, List.set_cons_zero, List.set_cons_succ]
                    refine wpAnyH_ready (rs := [8]) (by kernel_rfl) (by simp) ?_
                    refine AllReadyH.cons rfl (fun K hK => ?_) ?_
                    · (go_simp; (have Z : Hid (Zx (w3q.heap.size) [.int .i64 0, .slice none 0 0, .slice none 0 0, .slice none 0 0, .slice none 0 0] (w3q.alloc (.cells #[.int .i64 0, .slice none 0 0, .slice none 0 0, .slice none 0 0, .slice none 0 0] 29))) := Lib.hid (by have h1 := Zx.new w3q #[.int .i64 0, .slice none 0 0, .slice none 0 0, .slice none 0 0, .slice none 0 0] 29; (try simp only [World.size_alloc, World.size_drew] at h1); exact h1)); (replace Ya1 := Lib.hid (Ya1.out.below ((Below.refl _ _).alloc (Nat.le_refl _) (.cells #[.int .i64 0, .slice none 0 0, .slice none 0 0, .slice none 0 0, .slice none 0 0] 29)))); (replace Ya2 := Lib.hid (Ya2.out.below ((Below.refl _ _).alloc (Nat.le_refl _) (.cells #[.int .i64 0, .slice none 0 0, .slice none 0 0, .slice none 0 0, .slice none 0 0] 29)))); (replace Ya3 := Lib.hid (Ya3.out.below ((Below.refl _ _).alloc (Nat.le_refl _) (.cells #[.int .i64 0, .slice none 0 0, .slice none 0 0, .slice none 0 0, .slice none 0 0] 29)))); (replace Ya4 := Lib.hid (Ya4.out.below ((Below.refl _ _).alloc (Nat.le_refl _) (.cells #[.int .i64 0, .slice none 0 0, .slice none 0 0, .slice none 0 0, .slice none 0 0] 29)))); (replace Yb2 := Lib.hid (Yb2.out.below ((Below.refl _ _).alloc (Nat.le_refl _) (.cells #[.int .i64 0, .slice none 0 0, .slice none 0 0, .slice none 0 0, .slice none 0 0] 29)))); (replace Yb5 := Lib.hid (Yb5.out.below ((Below.refl _ _).alloc (Nat.le_refl _) (.cells #[.int .i64 0, .slice none 0 0, .slice none 0 0, .slice none 0 0, .slice none 0 0] 29)))); (replace Yb6 := Lib.hid (Yb6.out.below ((Below.refl _ _).alloc (Nat.le_refl _) (.cells #[.int .i64 0, .slice none 0 0, .slice none 0 0, .slice none 0 0, .slice none 0 0] 29)))); (have HV9p := HV9); (replace HV9 := Lib.hid (HV9.out.below ((Below.refl _ _).alloc (Nat.le_refl _) (.cells #[.int .i64 0, .slice none 0 0, .slice none 0 0, .slice none 0 0, .slice none 0 0] 29)))); (have HBp := HB); (have hg0 : w32.heap.size ≤ w3q.heap.size := (by have h1 := HB.out.size; (try simp only [World.size_alloc, World.size_drew] at h1); (try simp only [World.size_alloc, World.size_drew]); first | exact h1 | omega)); (replace HB := Lib.hid (HB.out.alloc HB.out.size (.cells #[.int .i64 0, .slice none 0 0, .slice none 0 0, .slice none 0 0, .slice none 0 0] 29))); (obtain ⟨zq0, zq1, zq2, zq3, zq4, fq⟩ := Z.out.d5))
                      refine hK.out _ _ ?_ (fun hH4 => ?_)
                      · exact HS.out _ HB.out
                      clear hK K hH3
                      (try simp only [Act.put, List.setIfInBounds_toArray, List.set_cons_zero, List.set_cons_succ])
                      refine wpAnyH_ready (rs := [9]) (by kernel_rfl) (by simp) ?_
                      refine AllReadyH.cons rfl (fun K hK => ?_) ?_
                      · go_simp
                        refine hK.out _ _ ?_ (fun hH5 => ?_)
                        · exact HS.out _ (HBp.out.alloc HBp.out.size _)
                        clear hK K hH4
                        (try simp only [Act.put, List.setIfInBounds_toArray, List.set_cons_zero, List.set_cons_succ])
                        refine wpAnyH_take (i := 10) (oi := { dst := some 16, op := Op.assign (Operand.tmp 101), type := _, pos := _, after := _, guard := _ }) (v := ?_) rfl (by kernel_rfl) (by kernel_rfl) (by kernel_rfl) (fun _ _ _ h => h) (Or.inl ⟨by rfl, ?_⟩) hH5 ?_
                        rotate_left
                        · intro w hSw; (try dsimp only at hSw); go_simp; (try with_reducible rfl)
                        simp only [Act.put, List.setIfInBounds_toArray, List.set_cons_zero, List.set_cons_succ]
                        refine wpAnyH_done (by kernel_rfl) ?_ _
                        go_wp2_with fail
                        go_meet
                        exact ⟨_, _, _, _, _, _, _, _, _, rfl, rfl, Zx.new _ #[.int .i64 f0, .slice hA1 m1 hc1, .slice hA2 n2 hc2, .slice hA3 n3 hc3, .slice hA4 n4 hc4] _, (HV9p.out.below ((Below.refl _ _).alloc (Nat.le_refl _) _)).mono (fun b hb => ⟨by have h1 := hb.1; (try simp only [World.size_alloc, World.size_drew] at h1); omega, by have h1 := hb.2; omega⟩), HBp.out.alloc HBp.out.size _⟩
                      exact AllReadyH.nil
                    exact AllReadyH.nil
                  refine AllReadyH.cons rfl (fun K hK => ?_) ?_
                  · (go_simp; (have Z : Hid (Zx (w2q.heap.size) [.int .i64 0, .slice none 0 0, .slice none 0 0, .slice none 0 0, .slice none 0 0] (w2q.alloc (.cells #[.int .i64 0, .slice none 0 0, .slice none 0 0, .slice none 0 0, .slice none 0 0] 29))) := Lib.hid (by have h1 := Zx.new w2q #[.int .i64 0, .slice none 0 0, .slice none 0 0, .slice none 0 0, .slice none 0 0] 29; (try simp only [World.size_alloc, World.size_drew] at h1); exact h1)); (replace Ya1 := Lib.hid (Ya1.out.below ((Below.refl _ _).alloc (Nat.le_refl _) (.cells #[.int .i64 0, .slice none 0 0, .slice none 0 0, .slice none 0 0, .slice none 0 0] 29)))); (replace Ya2 := Lib.hid (Ya2.out.below ((Below.refl _ _).alloc (Nat.le_refl _) (.cells #[.int .i64 0, .slice none 0 0, .slice none 0 0, .slice none 0 0, .slice none 0 0] 29)))); (replace Ya3 := Lib.hid (Ya3.out.below ((Below.refl _ _).alloc (Nat.le_refl _) (.cells #[.int .i64 0, .slice none 0 0, .slice none 0 0, .slice none 0 0, .slice none 0 0] 29)))); (replace Ya4 := Lib.hid (Ya4.out.below ((Below.refl _ _).alloc (Nat.le_refl _) (.cells #[.int .i64 0, .slice none 0 0, .slice none 0 0, .slice none 0 0, .slice none 0 0] 29)))); (replace Yb2 := Lib.hid (Yb2.out.below ((Below.refl _ _).alloc (Nat.le_refl _) (.cells #[.int .i64 0, .slice none 0 0, .slice none 0 0, .slice none 0 0, .slice none 0 0] 29)))); (replace Yb5 := Lib.hid (Yb5.out.below ((Below.refl _ _).alloc (Nat.le_refl _) (.cells #[.int .i64 0, .slice none 0 0, .slice none 0 0, .slice none 0 0, .slice none 0 0] 29)))); (replace Yb6 := Lib.hid (Yb6.out.below ((Below.refl _ _).alloc (Nat.le_refl _) (.cells #[.int .i64 0, .slice none 0 0, .slice none 0 0, .slice none 0 0, .slice none 0 0] 29)))); (have HBp := HB); (have hg0 : w32.heap.size ≤ w2q.heap.size := (by have h1 := HB.out.size; (try simp only [World.size_alloc, World.size_drew] at h1); (try simp only [World.size_alloc, World.size_drew]); first | exact h1 | omega)); (replace HB := Lib.hid (HB.out.alloc HB.out.size (.cells #[.int .i64 0, .slice none 0 0, .slice none 0 0, .slice none 0 0, .slice none 0 0] 29))); (obtain ⟨zq0, zq1, zq2, zq3, zq4, fq⟩ := Z.out.d5))
                    refine hK.out _ _ ?_ (fun hH6 => ?_)
                    · exact HS.out _ HB.out
                    clear hK K hH2
                    (try simp only [Act.put, List.setIfInBounds_toArray, List.set_cons_zero, List.set_cons_succ])
                    refine wpAnyH_ready (rs := [4]) (by kernel_rfl) (by simp) ?_
                    refine AllReadyH.cons rfl (fun K hK => ?_) ?_
                    · (go_simp; go_at_call 15; (with_reducible refine (CIM.out yaA1 yac1 yaA2 yac2 yaA3 yac3 yaA4 yac4 ybA2 ybc2 ybA5 ybc5 ybA6 ybc6 _ Ya1.out Ya2.out Ya3.out Ya4.out Yb2.out Yb5.out Yb6.out).mono ?_); rintro e w3q ⟨hA1, hc1, hA2, hc2, hA3, hc3, hA4, hc4, rfl, hV, hb⟩; (have hz3q := hb.size); (try simp only [World.size_alloc, World.size_drew] at hz3q); (have hy3q := HB.out.size); (try simp only [World.size_alloc, World.size_drew] at hy3q); (replace Ya1 := Lib.hid (Ya1.out.below hb)); (replace Ya2 := Lib.hid (Ya2.out.below hb)); (replace Ya3 := Lib.hid (Ya3.out.below hb)); (replace Ya4 := Lib.hid (Ya4.out.below hb)); (replace Yb2 := Lib.hid (Yb2.out.below hb)); (replace Yb5 := Lib.hid (Yb5.out.below hb)); (replace Yb6 := Lib.hid (Yb6.out.below hb)); (have HV9 := Lib.hid hV); (have hgl := Z.out.lt); (try simp only [World.size_alloc, World.size_drew] at hgl); (replace HB := Lib.hid (HB.out.trans (hb.mono HB.out.size))); (replace Z := Lib.hid (Z.out.below hb)); (obtain ⟨zq0, zq1, zq2, zq3, zq4, fq⟩ := Z.out.d5); clear hb hV; (try (go_wp2_with fail)))
                      refine hK.out _ _ ?_ (fun hH7 => ?_)
                      · exact HS.out _ HB.out
                      clear hK K hH6
                      (try simp only [Act.put, List.setIfInBounds_toArray, List.set_cons_zero, List.set_cons_succ])
                      refine wpAnyH_take (i := 5) (v := ?_) rfl (by kernel_rfl) (by kernel_rfl) (by kernel_rfl) (fun _ _ _ h => h) (Or.inl ⟨by rfl, ?_⟩) hH7 ?_
                      rotate_left
                      · intro w hSw; (try dsimp only at hSw); go_simp; (try with_reducible rfl)
                      simp only [Act.put, List.setIfInBounds_toArray, List.set_cons_zero, List.set_cons_succ]
                      refine wpAnyH_take (i := 6) (v := ?_) rfl (by kernel_rfl) (by kernel_rfl) (by kernel_rfl) (fun _ _ _ h => h) (Or.inl ⟨by rfl, ?_⟩) hH7 ?_
                      rotate_left
                      · intro w hSw; (try dsimp only at hSw); go_simp; (try with_reducible rfl)
                      simp only [Act.put, List.setIfInBounds_toArray, List.set_cons_zero, List.set_cons_succ]
                      refine wpAnyH_take (i := 7) (v := ?_) rfl (by kernel_rfl) (by kernel_rfl) (by kernel_rfl) (fun _ _ _ h => h) (Or.inl ⟨by rfl, ?_⟩) hH7 ?_
                      rotate_left
                      · intro w hSw; (try dsimp only at hSw); go_simp; (try with_reducible rfl)
                      simp only [Act.put, List.setIfInBounds_toArray, List.set_cons_zero, List.set_cons_succ]
                      refine wpAnyH_ready (rs := [9]) (by kernel_rfl) (by simp) ?_
                      refine AllReadyH.cons rfl (fun K hK => ?_) ?_
                      · go_simp
                        refine hK.out _ _ ?_ (fun hH8 => ?_)
                        · exact HS.out _ (((((HB.out.setCell (p := ⟨_, 0, none⟩) hg0 _).setCell (p := ⟨_, 1, none⟩) hg0 _).setCell (p := ⟨_, 2, none⟩) hg0 _).setCell (p := ⟨_, 3, none⟩) hg0 _).setCell (p := ⟨_, 4, none⟩) hg0 _)
                        clear hK K hH7
                        (try simp only [Act.put, List.setIfInBounds_toArray, List.set_cons_zero, List.set_cons_succ])
                        refine wpAnyH_take (i := 10) (oi := { dst := some 16, op := Op.assign (Operand.tmp 101), type := _, pos := _, after := _, guard := _ }) (v := ?_) rfl (by kernel_rfl) (by kernel_rfl) (by kernel_rfl) (fun _ _ _ h => h) (Or.inl ⟨by rfl, ?_⟩) hH8 ?_
                        rotate_left
                        · intro w hSw; (try dsimp only at hSw); go_simp; (try with_reducible rfl)
                        simp only [Act.put, List.setIfInBounds_toArray, List.set_cons_zero, List.set_cons_succ]
                        refine wpAnyH_done (by kernel_rfl) ?_ _
                        go_wp2_with fail
                        go_meet
                        exact ⟨_, _, _, _, _, _, _, _, _, rfl, rfl, (((((Z.out.put 0 _).put 1 _).put 2 _).put 3 _).put 4 _), (HV9.out.touch ((((((Touch.refl (fun b => b = _) _).setCell (p := ⟨_, 0, none⟩) rfl _).setCell (p := ⟨_, 1, none⟩) rfl _).setCell (p := ⟨_, 2, none⟩) rfl _).setCell (p := ⟨_, 3, none⟩) rfl _).setCell (p := ⟨_, 4, none⟩) rfl _) (fun b hb e => by have h1 := hb.1; (try dsimp only at e); (try simp only [World.size_alloc, World.size_drew] at h1); omega)).mono (fun b hb => ⟨by have h1 := hb.1; (try simp only [World.size_alloc, World.size_drew] at h1); omega, by have h1 := hb.1; (try simp only [World.size_alloc, World.size_drew] at h1); omega⟩), (((((HB.out.setCell (p := ⟨_, 0, none⟩) hg0 _).setCell (p := ⟨_, 1, none⟩) hg0 _).setCell (p := ⟨_, 2, none⟩) hg0 _).setCell (p := ⟨_, 3, none⟩) hg0 _).setCell (p := ⟨_, 4, none⟩) hg0 _)⟩
                      exact AllReadyH.nil
                    exact AllReadyH.nil
                  exact AllReadyH.nil
                refine AllReadyH.cons rfl (fun K hK => ?_) ?_
                · (go_simp; (have Z : Hid (Zx (w1q.heap.size) [.int .i64 0, .slice none 0 0, .slice none 0 0, .slice none 0 0, .slice none 0 0] (w1q.alloc (.cells #[.int .i64 0, .slice none 0 0, .slice none 0 0, .slice none 0 0, .slice none 0 0] 29))) := Lib.hid (by have h1 := Zx.new w1q #[.int .i64 0, .slice none 0 0, .slice none 0 0, .slice none 0 0, .slice none 0 0] 29; (try simp only [World.size_alloc, World.size_drew] at h1); exact h1)); (replace Ya1 := Lib.hid (Ya1.out.below ((Below.refl _ _).alloc (Nat.le_refl _) (.cells #[.int .i64 0, .slice none 0 0, .slice none 0 0, .slice none 0 0, .slice none 0 0] 29)))); (replace Ya2 := Lib.hid (Ya2.out.below ((Below.refl _ _).alloc (Nat.le_refl _) (.cells #[.int .i64 0, .slice none 0 0, .slice none 0 0, .slice none 0 0, .slice none 0 0] 29)))); (replace Ya3 := Lib.hid (Ya3.out.below ((Below.refl _ _).alloc (Nat.le_refl _) (.cells #[.int .i64 0, .slice none 0 0, .slice none 0 0, .slice none 0 0, .slice none 0 0] 29)))); (replace Ya4 := Lib.hid (Ya4.out.below ((Below.refl _ _).alloc (Nat.le_refl _) (.cells #[.int .i64 0, .slice none 0 0, .slice none 0 0, .slice none 0 0, .slice none 0 0] 29)))); (have HBp := HB); (have hg0 : w32.heap.size ≤ w1q.heap.size := (by have h1 := HB.out.size; (try simp only [World.size_alloc, World.size_drew] at h1); (try simp only [World.size_alloc, World.size_drew]); first | exact h1 | omega)); (replace HB := Lib.hid (HB.out.alloc HB.out.size (.cells #[.int .i64 0, .slice none 0 0, .slice none 0 0, .slice none 0 0, .slice none 0 0] 29))); (obtain ⟨zq0, zq1, zq2, zq3, zq4, fq⟩ := Z.out.d5))
                  refine hK.out _ _ ?_ (fun hH9 => ?_)
                  · exact HS.out _ HB.out
                  clear hK K hH1
                  (try simp only [Act.put, List.setIfInBounds_toArray, List.set_cons_zero, List.set_cons_succ])
                  refine wpAnyH_ready (rs := [3]) (by kernel_rfl) (by simp) ?_
                  refine AllReadyH.cons rfl (fun K hK => ?_) ?_
                  · (go_simp; go_at_call 37; (with_reducible refine (toEntity g0 g1 M2 D2 m2 j2 g3 g4_0 g4_1 M5 D5 m5 j5 M6 D6 m6 j6 g7 g8 g9 g10 _ (Jb2.out.below HB.out) hf2 hqb2 (Jb5.out.below HB.out) hf5 hqb5 (Jb6.out.below HB.out) hf6 hqb6).mono ?_); rintro e w2q ⟨ybA2, ybc2, ybA5, ybc5, ybA6, ybc6, a1, a2, rfl, hO2, hO5, hO6, -, -, -, hb⟩; (have hz2q := hb.size); (try simp only [World.size_alloc, World.size_drew] at hz2q); (have hy2q := HB.out.size); (try simp only [World.size_alloc, World.size_drew] at hy2q); (replace Ya1 := Lib.hid (Ya1.out.below hb)); (replace Ya2 := Lib.hid (Ya2.out.below hb)); (replace Ya3 := Lib.hid (Ya3.out.below hb)); (replace Ya4 := Lib.hid (Ya4.out.below hb)); (have Yb2 := Lib.hid hO2.lies); (have Yb5 := Lib.hid hO5.lies); (have Yb6 := Lib.hid hO6.lies); (replace HB := Lib.hid (HB.out.trans (hb.mono HB.out.size))); (replace Z := Lib.hid (Z.out.below hb)); (obtain ⟨zq0, zq1, zq2, zq3, zq4, fq⟩ := Z.out.d5); clear hb hO2 hO5 hO6; (try (go_wp2_with fail)))
                    refine hK.out _ _ ?_ (fun hH10 => ?_)
                    · exact HS.out _ HB.out
                    clear hK K hH9
                    (try simp only [Act.put, List.setIfInBounds_toArray, List.set_cons_zero, List.set_cons_succ])
                    refine wpAnyH_ready (rs := [4]) (by kernel_rfl) (by simp) ?_
                    refine AllReadyH.cons rfl (fun K hK => ?_) ?_
                    · (go_simp; go_at_call 15; (with_reducible refine (CIM.out yaA1 yac1 yaA2 yac2 yaA3 yac3 yaA4 yac4 ybA2 ybc2 ybA5 ybc5 ybA6 ybc6 _ Ya1.out Ya2.out Ya3.out Ya4.out Yb2.out Yb5.out Yb6.out).mono ?_); rintro e w3q ⟨hA1, hc1, hA2, hc2, hA3, hc3, hA4, hc4, rfl, hV, hb⟩; (have hz3q := hb.size); (try simp only [World.size_alloc, World.size_drew] at hz3q); (have hy3q := HB.out.size); (try simp only [World.size_alloc, World.size_drew] at hy3q); (replace Ya1 := Lib.hid (Ya1.out.below hb)); (replace Ya2 := Lib.hid (Ya2.out.below hb)); (replace Ya3 := Lib.hid (Ya3.out.below hb)); (replace Ya4 := Lib.hid (Ya4.out.below hb)); (replace Yb2 := Lib.hid (Yb2.out.below hb)); (replace Yb5 := Lib.hid (Yb5.out.below hb)); (replace Yb6 := Lib.hid (Yb6.out.below hb)); (have HV9 := Lib.hid hV); (have hgl := Z.out.lt); (try simp only [World.size_alloc, World.size_drew] at hgl); (replace HB := Lib.hid (HB.out.trans (hb.mono HB.out.size))); (replace Z := Lib.hid (Z.out.below hb)); (obtain ⟨zq0, zq1, zq2, zq3, zq4, fq⟩ := Z.out.d5); clear hb hV; (try (go_wp2_with fail)))
                      refine hK.out _ _ ?_ (fun hH11 => ?_)
                      · exact HS.out _ HB.out
                      clear hK K hH10
                      (try simp only [Act.put, List.setIfInBounds_toArray, List.set_cons_zero, List.set_cons_succ])
                      refine wpAnyH_take (i := 5) (v := ?_) rfl (by kernel_rfl) (by kernel_rfl) (by kernel_rfl) (fun _ _ _ h => h) (Or.inl ⟨by rfl, ?_⟩) hH11 ?_
                      rotate_left
                      · intro w hSw; (try dsimp only at hSw); go_simp; (try with_reducible rfl)
                      simp only [Act.put, List.setIfInBounds_toArray, List.set_cons_zero, List.set_cons_succ]
                      refine wpAnyH_take (i := 6) (v := ?_) rfl (by kernel_rfl) (by kernel_rfl) (by kernel_rfl) (fun _ _ _ h => h) (Or.inl ⟨by rfl, ?_⟩) hH11 ?_
                      rotate_left
                      · intro w hSw; (try dsimp only at hSw); go_simp; (try with_reducible rfl)
                      simp only [Act.put, List.setIfInBounds_toArray, List.set_cons_zero, List.set_cons_succ]
                      refine wpAnyH_take (i := 7) (v := ?_) rfl (by kernel_rfl) (by kernel_rfl) (by kernel_rfl) (fun _ _ _ h => h) (Or.inl ⟨by rfl, ?_⟩) hH11 ?_
                      rotate_left
                      · intro w hSw; (try dsimp only at hSw); go_simp; (try with_reducible rfl)
                      simp only [Act.put, List.setIfInBounds_toArray, List.set_cons_zero, List.set_cons_succ]
                      refine wpAnyH_ready (rs := [9]) (by kernel_rfl) (by simp) ?_
                      refine AllReadyH.cons rfl (fun K hK => ?_) ?_
                      · go_simp
                        refine hK.out _ _ ?_ (fun hH12 => ?_)
                        · exact HS.out _ (((((HB.out.setCell (p := ⟨_, 0, none⟩) hg0 _).setCell (p := ⟨_, 1, none⟩) hg0 _).setCell (p := ⟨_, 2, none⟩) hg0 _).setCell (p := ⟨_, 3, none⟩) hg0 _).setCell (p := ⟨_, 4, none⟩) hg0 _)
                        clear hK K hH11
                        (try simp only [Act.put, List.setIfInBounds_toArray, List.set_cons_zero, List.set_cons_succ])
                        refine wpAnyH_take (i := 10) (oi := { dst := some 16, op := Op.assign (Operand.tmp 101), type := _, pos := _, after := _, guard := _ }) (v := ?_) rfl (by kernel_rfl) (by kernel_rfl) (by kernel_rfl) (fun _ _ _ h => h) (Or.inl ⟨by rfl, ?_⟩) hH12 ?_
                        rotate_left
                        · intro w hSw; (try dsimp only at hSw); go_simp; (try with_reducible rfl)
                        simp only [Act.put, List.setIfInBounds_toArray, List.set_cons_zero, List.set_cons_succ]
                        refine wpAnyH_done (by kernel_rfl) ?_ _
                        go_wp2_with fail
                        go_meet
                        exact ⟨_, _, _, _, _, _, _, _, _, rfl, rfl, (((((Z.out.put 0 _).put 1 _).put 2 _).put 3 _).put 4 _), (HV9.out.touch ((((((Touch.refl (fun b => b = _) _).setCell (p := ⟨_, 0, none⟩) rfl _).setCell (p := ⟨_, 1, none⟩) rfl _).setCell (p := ⟨_, 2, none⟩) rfl _).setCell (p := ⟨_, 3, none⟩) rfl _).setCell (p := ⟨_, 4, none⟩) rfl _) (fun b hb e => by have h1 := hb.1; (try dsimp only at e); (try simp only [World.size_alloc, World.size_drew] at h1); omega)).mono (fun b hb => ⟨by have h1 := hb.1; (try simp only [World.size_alloc, World.size_drew] at h1); omega, by have h1 := hb.1; (try simp only [World.size_alloc, World.size_drew] at h1); omega⟩), (((((HB.out.setCell (p := ⟨_, 0, none⟩) hg0 _).setCell (p := ⟨_, 1, none⟩) hg0 _).setCell (p := ⟨_, 2, none⟩) hg0 _).setCell (p := ⟨_, 3, none⟩) hg0 _).setCell (p := ⟨_, 4, none⟩) hg0 _)⟩
                      exact AllReadyH.nil
                    exact AllReadyH.nil
                  exact AllReadyH.nil
                exact AllReadyH.nil
              refine AllReadyH.cons rfl (fun K hK => ?_) ?_
              · (go_simp; (have Z : Hid (Zx (w32.heap.size) [.int .i64 0, .slice none 0 0, .slice none 0 0, .slice none 0 0, .slice none 0 0] ((w32.alloc (.cells #[.int .i64 0, .slice none 0 0, .slice none 0 0, .slice none 0 0, .slice none 0 0] 29)).drew)) := Lib.hid (by have h1 := (Zx.new w32 #[.int .i64 0, .slice none 0 0, .slice none 0 0, .slice none 0 0, .slice none 0 0] 29).below (Below.refl _ _).drew; (try simp only [World.size_alloc, World.size_drew] at h1); exact h1)); (have HBp := HB); (have hg0 : w32.heap.size ≤ w32.heap.size := (by (try simp only [World.size_alloc, World.size_drew]); omega)); (replace HB := Lib.hid ((Below.refl w32.heap.size w32).alloc (Nat.le_refl _) (.cells #[.int .i64 0, .slice none 0 0, .slice none 0 0, .slice none 0 0, .slice none 0 0] 29)).drew); (obtain ⟨zq0, zq1, zq2, zq3, zq4, fq⟩ := Z.out.d5))
                refine hK.out _ _ ?_ (fun hH13 => ?_)
                · exact HS.out _ HB.out
                clear hK K hH0
                (try simp only [Act.put, List.setIfInBounds_toArray, List.set_cons_zero, List.set_cons_succ])
                refine wpAnyH_ready (rs := [1]) (by kernel_rfl) (by simp) ?_
                refine AllReadyH.cons rfl (fun K hK => ?_) ?_
                · (go_simp; go_at_call 30; (with_reducible refine (toVat f0 L1 A1 n1 c1 L2 A2 n2 c2 L3 A3 n3 c3 L4 A4 n4 c4 _ (Ja1.out.below HB.out) ht1 hqa1 (Ja2.out.below HB.out) ht2 hqa2 (Ja3.out.below HB.out) ht3 hqa3 (Ja4.out.below HB.out) ht4 hqa4).mono ?_); rintro e w1q ⟨yaA1, yac1, yaA2, yac2, yaA3, yac3, yaA4, yac4, a1, a2, a3, rfl, hO1, hO2, hO3, hO4, -, -, -, -, hb⟩; (have hz1q := hb.size); (try simp only [World.size_alloc, World.size_drew] at hz1q); (have hy1q := HB.out.size); (try simp only [World.size_alloc, World.size_drew] at hy1q); (have Ya1 := Lib.hid hO1.lies); (have Ya2 := Lib.hid hO2.lies); (have Ya3 := Lib.hid hO3.lies); (have Ya4 := Lib.hid hO4.lies); (replace HB := Lib.hid (HB.out.trans (hb.mono HB.out.size))); (replace Z := Lib.hid (Z.out.below hb)); (obtain ⟨zq0, zq1, zq2, zq3, zq4, fq⟩ := Z.out.d5); clear hb hO1 hO2 hO3 hO4; (try (go_wp2_with fail)))
                  refine hK.out _ _ ?_ (fun hH14 => ?_)
                  · exact HS.out _ HB.out
                  clear hK K hH13
                  (try simp only [Act.put, List.setIfInBounds_toArray, List.set_cons_zero, List.set_cons_succ])
                  refine wpAnyH_ready (rs := [3]) (by kernel_rfl) (by simp) ?_
                  refine AllReadyH.cons rfl (fun K hK => ?_) ?_
                  · (go_simp; go_at_call 37; (with_reducible refine (toEntity g0 g1 M2 D2 m2 j2 g3 g4_0 g4_1 M5 D5 m5 j5 M6 D6 m6 j6 g7 g8 g9 g10 _ (Jb2.out.below HB.out) hf2 hqb2 (Jb5.out.below HB.out) hf5 hqb5 (Jb6.out.below HB.out) hf6 hqb6).mono ?_); rintro e w2q ⟨ybA2, ybc2, ybA5, ybc5, ybA6, ybc6, a1, a2, rfl, hO2, hO5, hO6, -, -, -, hb⟩; (have hz2q := hb.size); (try simp only [World.size_alloc, World.size_drew] at hz2q); (have hy2q := HB.out.size); (try simp only [World.size_alloc, World.size_drew] at hy2q); (replace Ya1 := Lib.hid (Ya1.out.below hb)); (replace Ya2 := Lib.hid (Ya2.out.below hb)); (replace Ya3 := Lib.hid (Ya3.out.below hb)); (replace Ya4 := Lib.hid (Ya4.out.below hb)); (have Yb2 := Lib.hid hO2.lies); (have Yb5 := Lib.hid hO5.lies); (have Yb6 := Lib.hid hO6.lies); (replace HB := Lib.hid (HB.out.trans (hb.mono HB.out.size))); (replace Z := Lib.hid (Z.out.below hb)); (obtain ⟨zq0, zq1, zq2, zq3, zq4, fq⟩ := Z.out.d5); clear hb hO2 hO5 hO6; (try (go_wp2_with fail)))
                    refine hK.out _ _ ?_ (fun hH15 => ?_)
                    · exact HS.out _ HB.out
                    clear hK K hH14
                    (try simp only [Act.put, List.setIfInBounds_toArray, List.set_cons_zero, List.set_cons_succ])
                    refine wpAnyH_ready (rs := [4]) (by kernel_rfl) (by simp) ?_
                    refine AllReadyH.cons rfl (fun K hK => ?_) ?_
                    · (go_simp; go_at_call 15; (with_reducible refine (CIM.out yaA1 yac1 yaA2 yac2 yaA3 yac3 yaA4 yac4 ybA2 ybc2 ybA5 ybc5 ybA6 ybc6 _ Ya1.out Ya2.out Ya3.out Ya4.out Yb2.out Yb5.out Yb6.out).mono ?_); rintro e w3q ⟨hA1, hc1, hA2, hc2, hA3, hc3, hA4, hc4, rfl, hV, hb⟩; (have hz3q := hb.size); (try simp only [World.size_alloc, World.size_drew] at hz3q); (have hy3q := HB.out.size); (try simp only [World.size_alloc, World.size_drew] at hy3q); (replace Ya1 := Lib.hid (Ya1.out.below hb)); (replace Ya2 := Lib.hid (Ya2.out.below hb)); (replace Ya3 := Lib.hid (Ya3.out.below hb)); (replace Ya4 := Lib.hid (Ya4.out.below hb)); (replace Yb2 := Lib.hid (Yb2.out.below hb)); (replace Yb5 := Lib.hid (Yb5.out.below hb)); (replace Yb6 := Lib.hid (Yb6.out.below hb)); (have HV9 := Lib.hid hV); (have hgl := Z.out.lt); (try simp only [World.size_alloc, World.size_drew] at hgl); (replace HB := Lib.hid (HB.out.trans (hb.mono HB.out.size))); (replace Z := Lib.hid (Z.out.below hb)); (obtain ⟨zq0, zq1, zq2, zq3, zq4, fq⟩ := Z.out.d5); clear hb hV; (try (go_wp2_with fail)))
                      refine hK.out _ _ ?_ (fun hH16 => ?_)
                      · exact HS.out _ HB.out
                      clear hK K hH15
                      (try simp only [Act.put, List.setIfInBounds_toArray, List.set_cons_zero, List.set_cons_succ])
                      refine wpAnyH_take (i := 5) (v := ?_) rfl (by kernel_rfl) (by kernel_rfl) (by kernel_rfl) (fun _ _ _ h => h) (Or.inl ⟨by rfl, ?_⟩) hH16 ?_
                      rotate_left
                      · intro w hSw; (try dsimp only at hSw); go_simp; (try with_reducible rfl)
                      simp only [Act.put, List.setIfInBounds_toArray, List.set_cons_zero, List.set_cons_succ]
                      refine wpAnyH_take (i := 6) (v := ?_) rfl (by kernel_rfl) (by kernel_rfl) (by kernel_rfl) (fun _ _ _ h => h) (Or.inl ⟨by rfl, ?_⟩) hH16 ?_
                      rotate_left
                      · intro w hSw; (try dsimp only at hSw); go_simp; (try with_reducible rfl)
                      simp only [Act.put, List.setIfInBounds_toArray, List.set_cons_zero, List.set_cons_succ]
                      refine wpAnyH_take (i := 7) (v := ?_) rfl (by kernel_rfl) (by kernel_rfl) (by kernel_rfl) (fun _ _ _ h => h) (Or.inl ⟨by rfl, ?_⟩) hH16 ?_
                      rotate_left
                      · intro w hSw; (try dsimp only at hSw); go_simp; (try with_reducible rfl)
                      simp only [Act.put, List.setIfInBounds_toArray, List.set_cons_zero, List.set_cons_succ]
                      refine wpAnyH_ready (rs := [9]) (by kernel_rfl) (by simp) ?_
                      refine AllReadyH.cons rfl (fun K hK => ?_) ?_
                      · go_simp
                        refine hK.out _ _ ?_ (fun hH17 => ?_)
                        · exact HS.out _ (((((HB.out.setCell (p := ⟨_, 0, none⟩) hg0 _).setCell (p := ⟨_, 1, none⟩) hg0 _).setCell (p := ⟨_, 2, none⟩) hg0 _).setCell (p := ⟨_, 3, none⟩) hg0 _).setCell (p := ⟨_, 4, none⟩) hg0 _)
                        clear hK K hH16
                        (try simp only [Act.put, List.setIfInBounds_toArray, List.set_cons_zero, List.set_cons_succ])
                        refine wpAnyH_take (i := 10) (oi := { dst := some 16, op := Op.assign (Operand.tmp 101), type := _, pos := _, after := _, guard := _ }) (v := ?_) rfl (by kernel_rfl) (by kernel_rfl) (by kernel_rfl) (fun _ _ _ h => h) (Or.inl ⟨by rfl, ?_⟩) hH17 ?_
                        rotate_left
                        · intro w hSw; (try dsimp only at hSw); go_simp; (try with_reducible rfl)
                        simp only [Act.put, List.setIfInBounds_toArray, List.set_cons_zero, List.set_cons_succ]
                        refine wpAnyH_done (by kernel_rfl) ?_ _
                        go_wp2_with fail
                        go_meet
                        exact ⟨_, _, _, _, _, _, _, _, _, rfl, rfl, (((((Z.out.put 0 _).put 1 _).put 2 _).put 3 _).put 4 _), (HV9.out.touch ((((((Touch.refl (fun b => b = _) _).setCell (p := ⟨_, 0, none⟩) rfl _).setCell (p := ⟨_, 1, none⟩) rfl _).setCell (p := ⟨_, 2, none⟩) rfl _).setCell (p := ⟨_, 3, none⟩) rfl _).setCell (p := ⟨_, 4, none⟩) rfl _) (fun b hb e => by have h1 := hb.1; (try dsimp only at e); (try simp only [World.size_alloc, World.size_drew] at h1); omega)).mono (fun b hb => ⟨by have h1 := hb.1; (try simp only [World.size_alloc, World.size_drew] at h1); omega, by have h1 := hb.1; (try simp only [World.size_alloc, World.size_drew] at h1); omega⟩), (((((HB.out.setCell (p := ⟨_, 0, none⟩) hg0 _).setCell (p := ⟨_, 1, none⟩) hg0 _).setCell (p := ⟨_, 2, none⟩) hg0 _).setCell (p := ⟨_, 3, none⟩) hg0 _).setCell (p := ⟨_, 4, none⟩) hg0 _)⟩
                      exact AllReadyH.nil
                    exact AllReadyH.nil
                  exact AllReadyH.nil
                exact AllReadyH.nil
              exact AllReadyH.nil
            case rest =>
              rename World => w33
              obtain ⟨gh, hA1, hc1, hA2, hc2, hA3, hc3, hA4, hc4, rfl, rfl, hZ, hV, hb⟩ := hcut
              clear HS
              replace Hw : Hid (Owns w33 (.r [.i f0, .l N1, .l L2, .l L3, .l L4]) [.int .i64 f0, .slice wA1 m1 wc1, .slice wA2 n2 wc2, .slice wA3 n3 wc3, .slice wA4 n4 wc4] (fun b => (w2.heap.size ≤ b ∧ b ≠ gw) ∧ b < w3.heap.size)) := Lib.hid (Hw.out.below hb)
              replace Hg : Hid (Owns w33 (.r [.i f0, .l (mkAll N1 (1)), .l (mkAll L2 (1 + cntAll N1)), .l (mkAll L3 (1 + cntAll N1 + cntAll L2)), .l (mkAll L4 (1 + cntAll N1 + cntAll L2 + cntAll L3))]) [.int .i64 f0, .slice gA1 m1 gc1, .slice gA2 n2 gc2, .slice gA3 n3 gc3, .slice gA4 n4 gc4] (rng (w5.heap.size + 1) (w6.heap.size))) := Lib.hid (Hg.out.below hb)
              replace Ba : Hid (Box (W.heap.size) [.int .i64 f0, .slice A1 n1 c1, .slice A2 n2 c2, .slice A3 n3 c3, .slice A4 n4 c4] w33) := Lib.hid (Ba.out.below hb)
              replace Bb : Hid (Box (W.heap.size + 1) [.int .i64 g0, .int .i64 g1, .slice D2 m2 j2, .int .i64 g3, .int .i64 g4_0, .int .i64 g4_1, .slice D5 m5 j5, .slice D6 m6 j6, .int .i64 g7, .int .i64 g8, .int .i64 g9, .int .i64 g10] w33) := Lib.hid (Bb.out.below hb)
              replace Bw : Hid (Box (gw) [.int .i64 f0, .slice wA1 m1 wc1, .slice wA2 n2 wc2, .slice wA3 n3 wc3, .slice wA4 n4 wc4] w33) := Lib.hid (Bw.out.below hb)
              replace Bx : Hid (Box (w4.heap.size) [.int .i64 f0, .slice xA1 n1 xc1, .slice xA2 n2 xc2, .slice xA3 n3 xc3, .slice xA4 n4 xc4] w33) := Lib.hid (Bx.out.below hb)
              replace Bz : Hid (Box (w5.heap.size) [.int .i64 g0, .int .i64 g1, .slice zA2 m2 zc2, .int .i64 g3, .int .i64 g4_0, .int .i64 g4_1, .slice zA5 m5 zc5, .slice zA6 m6 zc6, .int .i64 g7, .int .i64 g8, .int .i64 g9, .int .i64 g10] w33) := Lib.hid (Bz.out.below hb)
              replace Bg : Hid (Box (w6.heap.size) [.int .i64 f0, .slice gA1 m1 gc1, .slice gA2 n2 gc2, .slice gA3 n3 gc3, .slice gA4 n4 gc4] w33) := Lib.hid (Bg.out.below hb)
              replace HT : Hid (Below W.heap.size W w33) := Lib.hid (HT.out.trans (hb.mono HT.out.size))
              have hsw33 : w32.heap.size ≤ w33.heap.size := (by have h1 := hb.size; (try simp only [World.size_alloc, World.size_drew] at h1); exact h1)
              have hzh : gh < w33.heap.size := hZ.lt
              have Bh : Hid (Box (gh) [.int .i64 f0, .slice hA1 m1 hc1, .slice hA2 n2 hc2, .slice hA3 n3 hc3, .slice hA4 n4 hc4] w33) := Lib.hid hZ.1
              have Hh : Hid (Owns w33 (.r [.i f0, .l N1, .l L2, .l L3, .l L4]) [.int .i64 f0, .slice hA1 m1 hc1, .slice hA2 n2 hc2, .slice hA3 n3 hc3, .slice hA4 n4 hc4] (fun b => (w32.heap.size ≤ b ∧ b ≠ gh) ∧ b < w33.heap.size)) := Lib.hid hV.cut.owns
              clear hZ hV hb
              obtain ⟨zh0, zh1, zh2, zh3, zh4⟩ := Bh.out.c5
              obtain ⟨zw0, zw1, zw2, zw3, zw4⟩ := Bw.out.c5
              go_wp2_with fail
              refine (eqVat f0 N1 hA1 m1 hc1 L2 hA2 n2 hc2 L3 hA3 n3 hc3 L4 hA4 n4 hc4 wA1 wc1 wA2 wc2 wA3 wc3 wA4 wc4 _ (liesVat1 Hh.out) (liesVat1 Hw.out) htN1 hmN1 (liesVat2 Hh.out) (liesVat2 Hw.out) ht2 hm2 (liesVat3 Hh.out) (liesVat3 Hw.out) ht3 hm3 (liesVat4 Hh.out) (liesVat4 Hw.out) ht4 hm4).mono ?_
              rintro e w34 ⟨rfl, hb⟩
              clear zh0 zh1 zh2 zh3 zh4
              clear zw0 zw1 zw2 zw3 zw4
              replace Hw : Hid (Owns w34 (.r [.i f0, .l N1, .l L2, .l L3, .l L4]) [.int .i64 f0, .slice wA1 m1 wc1, .slice wA2 n2 wc2, .slice wA3 n3 wc3, .slice wA4 n4 wc4] (fun b => (w2.heap.size ≤ b ∧ b ≠ gw) ∧ b < w3.heap.size)) := Lib.hid (Hw.out.below hb)
              replace Hg : Hid (Owns w34 (.r [.i f0, .l (mkAll N1 (1)), .l (mkAll L2 (1 + cntAll N1)), .l (mkAll L3 (1 + cntAll N1 + cntAll L2)), .l (mkAll L4 (1 + cntAll N1 + cntAll L2 + cntAll L3))]) [.int .i64 f0, .slice gA1 m1 gc1, .slice gA2 n2 gc2, .slice gA3 n3 gc3, .slice gA4 n4 gc4] (rng (w5.heap.size + 1) (w6.heap.size))) := Lib.hid (Hg.out.below hb)
              replace Hh : Hid (Owns w34 (.r [.i f0, .l N1, .l L2, .l L3, .l L4]) [.int .i64 f0, .slice hA1 m1 hc1, .slice hA2 n2 hc2, .slice hA3 n3 hc3, .slice hA4 n4 hc4] (fun b => (w32.heap.size ≤ b ∧ b ≠ gh) ∧ b < w33.heap.size)) := Lib.hid (Hh.out.below hb)
              replace Ba : Hid (Box (W.heap.size) [.int .i64 f0, .slice A1 n1 c1, .slice A2 n2 c2, .slice A3 n3 c3, .slice A4 n4 c4] w34) := Lib.hid (Ba.out.below hb)
              replace Bb : Hid (Box (W.heap.size + 1) [.int .i64 g0, .int .i64 g1, .slice D2 m2 j2, .int .i64 g3, .int .i64 g4_0, .int .i64 g4_1, .slice D5 m5 j5, .slice D6 m6 j6, .int .i64 g7, .int .i64 g8, .int .i64 g9, .int .i64 g10] w34) := Lib.hid (Bb.out.below hb)
              replace Bw : Hid (Box (gw) [.int .i64 f0, .slice wA1 m1 wc1, .slice wA2 n2 wc2, .slice wA3 n3 wc3, .slice wA4 n4 wc4] w34) := Lib.hid (Bw.out.below hb)
              replace Bx : Hid (Box (w4.heap.size) [.int .i64 f0, .slice xA1 n1 xc1, .slice xA2 n2 xc2, .slice xA3 n3 xc3, .slice xA4 n4 xc4] w34) := Lib.hid (Bx.out.below hb)
              replace Bz : Hid (Box (w5.heap.size) [.int .i64 g0, .int .i64 g1, .slice zA2 m2 zc2, .int .i64 g3, .int .i64 g4_0, .int .i64 g4_1, .slice zA5 m5 zc5, .slice zA6 m6 zc6, .int .i64 g7, .int .i64 g8, .int .i64 g9, .int .i64 g10] w34) := Lib.hid (Bz.out.below hb)
              replace Bg : Hid (Box (w6.heap.size) [.int .i64 f0, .slice gA1 m1 gc1, .slice gA2 n2 gc2, .slice gA3 n3 gc3, .slice gA4 n4 gc4] w34) := Lib.hid (Bg.out.below hb)
              replace Bh : Hid (Box (gh) [.int .i64 f0, .slice hA1 m1 hc1, .slice hA2 n2 hc2, .slice hA3 n3 hc3, .slice hA4 n4 hc4] w34) := Lib.hid (Bh.out.below hb)
              replace HT : Hid (Below W.heap.size W w34) := Lib.hid (HT.out.trans (hb.mono HT.out.size))
              have hsw34 : w33.heap.size ≤ w34.heap.size := (by have h1 := hb.size; (try simp only [World.size_alloc, World.size_drew] at h1); exact h1)
              clear hb
              obtain ⟨zg0, zg1, zg2, zg3, zg4⟩ := Bg.out.c5
              go_wp2_with fail
              refine (heldRVat f0 N1 gA1 m1 gc1 L2 gA2 n2 gc2 L3 gA3 n3 gc3 L4 gA4 n4 gc4 (1) _ (liesVat1 Hg.out) (liesVat2 Hg.out) (liesVat3 Hg.out) (liesVat4 Hg.out) htN1 hNN1 ht2 hN2 ht3 hN3 ht4 hN4 (by omega) (by omega)).mono ?_
              rintro e w35 ⟨rfl, hb⟩
              clear zg0 zg1 zg2 zg3 zg4
              replace Hw : Hid (Owns w35 (.r [.i f0, .l N1, .l L2, .l L3, .l L4]) [.int .i64 f0, .slice wA1 m1 wc1, .slice wA2 n2 wc2, .slice wA3 n3 wc3, .slice wA4 n4 wc4] (fun b => (w2.heap.size ≤ b ∧ b ≠ gw) ∧ b < w3.heap.size)) := Lib.hid (Hw.out.below hb)
              replace Hg : Hid (Owns w35 (.r [.i f0, .l (mkAll N1 (1)), .l (mkAll L2 (1 + cntAll N1)), .l (mkAll L3 (1 + cntAll N1 + cntAll L2)), .l (mkAll L4 (1 + cntAll N1 + cntAll L2 + cntAll L3))]) [.int .i64 f0, .slice gA1 m1 gc1, .slice gA2 n2 gc2, .slice gA3 n3 gc3, .slice gA4 n4 gc4] (rng (w5.heap.size + 1) (w6.heap.size))) := Lib.hid (Hg.out.below hb)
              replace Hh : Hid (Owns w35 (.r [.i f0, .l N1, .l L2, .l L3, .l L4]) [.int .i64 f0, .slice hA1 m1 hc1, .slice hA2 n2 hc2, .slice hA3 n3 hc3, .slice hA4 n4 hc4] (fun b => (w32.heap.size ≤ b ∧ b ≠ gh) ∧ b < w33.heap.size)) := Lib.hid (Hh.out.below hb)
              replace Ba : Hid (Box (W.heap.size) [.int .i64 f0, .slice A1 n1 c1, .slice A2 n2 c2, .slice A3 n3 c3, .slice A4 n4 c4] w35) := Lib.hid (Ba.out.below hb)
              replace Bb : Hid (Box (W.heap.size + 1) [.int .i64 g0, .int .i64 g1, .slice D2 m2 j2, .int .i64 g3, .int .i64 g4_0, .int .i64 g4_1, .slice D5 m5 j5, .slice D6 m6 j6, .int .i64 g7, .int .i64 g8, .int .i64 g9, .int .i64 g10] w35) := Lib.hid (Bb.out.below hb)
              replace Bw : Hid (Box (gw) [.int .i64 f0, .slice wA1 m1 wc1, .slice wA2 n2 wc2, .slice wA3 n3 wc3, .slice wA4 n4 wc4] w35) := Lib.hid (Bw.out.below hb)
              replace Bx : Hid (Box (w4.heap.size) [.int .i64 f0, .slice xA1 n1 xc1, .slice xA2 n2 xc2, .slice xA3 n3 xc3, .slice xA4 n4 xc4] w35) := Lib.hid (Bx.out.below hb)
              replace Bz : Hid (Box (w5.heap.size) [.int .i64 g0, .int .i64 g1, .slice zA2 m2 zc2, .int .i64 g3, .int .i64 g4_0, .int .i64 g4_1, .slice zA5 m5 zc5, .slice zA6 m6 zc6, .int .i64 g7, .int .i64 g8, .int .i64 g9, .int .i64 g10] w35) := Lib.hid (Bz.out.below hb)
              replace Bg : Hid (Box (w6.heap.size) [.int .i64 f0, .slice gA1 m1 gc1, .slice gA2 n2 gc2, .slice gA3 n3 gc3, .slice gA4 n4 gc4] w35) := Lib.hid (Bg.out.below hb)
              replace Bh : Hid (Box (gh) [.int .i64 f0, .slice hA1 m1 hc1, .slice hA2 n2 hc2, .slice hA3 n3 hc3, .slice hA4 n4 hc4] w35) := Lib.hid (Bh.out.below hb)
              replace HT : Hid (Below W.heap.size W w35) := Lib.hid (HT.out.trans (hb.mono HT.out.size))
              have hsw35 : w34.heap.size ≤ w35.heap.size := (by have h1 := hb.size; (try simp only [World.size_alloc, World.size_drew] at h1); exact h1)
              clear hb
              go_wp2_with fail
              go_ret
              exact GivesBool.ret HT.out))
end Go.Proofs.Ytmeacgpebpfpbaa
