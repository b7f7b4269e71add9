/- Exact laws of chapter 10: ReleaseExport. -/
import Derived.Test.YtdedioghljkflaaLawL0
import Derived.Test.YtdedioghljkflaaLnkRI
import Derived.Test.YtdedioghljkflaaLnkRS
import Derived.Test.YtdedioghljkflaaMarkL
import Derived.Test.YtdedioghljkflaaTyG2
import Derived.Test.YtdedioghljkflaaTyG4
import Derived.Test.YtdedioghljkflaaTyG5
import Derived.Deep.RegionHeld3
import Derived.LoopTactic
import Derived.Lib.Hide
import Derived.Deep.QuietTactic
import Derived.BigQuiet
import Derived.Deep.RegionWith
import Derived.Handy
namespace Go.Proofs.Ytdedioghljkflaa
open Go.RowKit
set_option linter.unusedVariables false
set_option linter.unusedSimpArgs false
set_option maxRecDepth 100000 in
set_option maxHeartbeats 16000000 in
theorem law_ReleaseExport (f0 : Int) (f1 : Bool) (L2 : List Dat) (A2 : Option Addr) (n2 c2 : Nat) (f3 : Int) (L4 : List Dat) (A4 : Option Addr) (n4 c4 : Nat) (f5 : Int) (L6 : List Dat) (A6 : Option Addr) (n6 c6 : Nat) (a a2 : Int) (W : World) (hl2 : Lies W (.l L2) [.slice A2 n2 c2]) (ht2 : ∀ x ∈ L2, Has tyExport x) (hm2 : n2 ≤ 9223372036854775807) (hl4 : Lies W (.l L4) [.slice A4 n4 c4]) (ht4 : ∀ x ∈ L4, Has tyQuestion x) (hm4 : n4 ≤ 9223372036854775807) (hl6 : Lies W (.l L6) [.slice A6 n6 c6]) (ht6 : ∀ x ∈ L6, Has tyQuestion x) (hm6 : n6 ≤ 9223372036854775807)  :
    Calls Try.prog 8 #[.agg #[.int .i64 f0, .bool f1, .slice A2 n2 c2, .int .i64 f3, .slice A4 n4 c4, .int .i64 f5, .slice A6 n6 c6], .int .i64 a, .int .i64 a2] W (GivesBool true W) := by
  have hc2 := Lib.hid hl2.count
  have Z2 := Lib.hid hl2
  have hc4 := Lib.hid hl4.count
  have Z4 := Lib.hid hl4
  have hc6 := Lib.hid hl6.count
  have Z6 := Lib.hid hl6
  clear hl2 hl4 hl6
  have HT : Hid (Below W.heap.size W W) := Lib.hid (Below.refl _ _)
  have hb : Below W.heap.size W (W.alloc (.cells #[.int .i64 f0, .bool f1, .slice A2 n2 c2, .int .i64 f3, .slice A4 n4 c4, .int .i64 f5, .slice A6 n6 c6] 41)) := (Below.refl _ _).alloc (Nat.le_refl _) _
  replace HT : Hid (Below W.heap.size W (W.alloc (.cells #[.int .i64 f0, .bool f1, .slice A2 n2 c2, .int .i64 f3, .slice A4 n4 c4, .int .i64 f5, .slice A6 n6 c6] 41))) := Lib.hid (HT.out.trans (hb.mono HT.out.size))
  clear hb
  have Ba : Hid (Box (W.heap.size) [.int .i64 f0, .bool f1, .slice A2 n2 c2, .int .i64 f3, .slice A4 n4 c4, .int .i64 f5, .slice A6 n6 c6] (W.alloc (.cells #[.int .i64 f0, .bool f1, .slice A2 n2 c2, .int .i64 f3, .slice A4 n4 c4, .int .i64 f5, .slice A6 n6 c6] 41))) := Lib.hid (by have h1 := Box.new W #[.int .i64 f0, .bool f1, .slice A2 n2 c2, .int .i64 f3, .slice A4 n4 c4, .int .i64 f5, .slice A6 n6 c6] 41; (try simp only [World.size_alloc] at h1); exact h1)
  rcases leftD_cases (.r [.i f0, .b f1, .l L2, .i f3, .l L4, .i f5, .l L6]) 1048576 with hbig | ⟨r, hr, hr0, hr1, hbk⟩
  case inl =>
    have HBIG := Lib.hid hbig
    clear hbig
    go_enter Try.func8, Try.ntmps8
    obtain ⟨za0, za1, za2, za3, za4, za5, za6⟩ := Ba.out.c7
    go_wp2_with fail
    refine (szLink f0 f1 L2 A2 n2 c2 f3 L4 A4 n4 c4 f5 L6 A6 n6 c6 1048576 _ (by omega) (by omega) (Z2.out.below HT.out) ht2 hm2 (Z4.out.below HT.out) ht4 hm4 (Z6.out.below HT.out) ht6 hm6).mono ?_
    rintro e w1 ⟨rfl, hb⟩
    rw [HBIG.out]
    clear za0 za1 za2 za3 za4 za5 za6
    replace Ba : Hid (Box (W.heap.size) [.int .i64 f0, .bool f1, .slice A2 n2 c2, .int .i64 f3, .slice A4 n4 c4, .int .i64 f5, .slice A6 n6 c6] w1) := Lib.hid (Ba.out.below hb)
    replace HT : Hid (Below W.heap.size W w1) := Lib.hid (HT.out.trans (hb.mono HT.out.size))
    have hsw1 : W.heap.size + 1 ≤ w1.heap.size := (by have h1 := hb.size; (try simp only [World.size_alloc] at h1); exact h1)
    clear hb
    go_wp2_with fail
    go_ret
    exact GivesBool.ret HT.out
  case inr =>
    have HR := Lib.hid hr
    clear hr
    have hq2 : (Dat.l L2).bulk ≤ 1099511627776 := by simp only [Dat.bulk, bulkAll] at hbk ⊢; omega
    have hb2 : (Dat.l L2).bulk ≤ 1048576 := by simp only [Dat.bulk, bulkAll] at hbk ⊢; omega
    have hn2 : n2 ≤ 1048576 := by have h1 := hc2.out; have h2 := hb2; simp only [Dat.bulk] at h2; omega
    have hN2 : n2 ≤ 1099511627776 := by omega
    have hq4 : (Dat.l L4).bulk ≤ 1099511627776 := by simp only [Dat.bulk, bulkAll] at hbk ⊢; omega
    have hb4 : (Dat.l L4).bulk ≤ 1048576 := by simp only [Dat.bulk, bulkAll] at hbk ⊢; omega
    have hn4 : n4 ≤ 1048576 := by have h1 := hc4.out; have h2 := hb4; simp only [Dat.bulk] at h2; omega
    have hN4 : n4 ≤ 1099511627776 := by omega
    have hq6 : (Dat.l L6).bulk ≤ 1099511627776 := by simp only [Dat.bulk, bulkAll] at hbk ⊢; omega
    have hb6 : (Dat.l L6).bulk ≤ 1048576 := by simp only [Dat.bulk, bulkAll] at hbk ⊢; omega
    have hn6 : n6 ≤ 1048576 := by have h1 := hc6.out; have h2 := hb6; simp only [Dat.bulk] at h2; omega
    have hN6 : n6 ≤ 1099511627776 := by omega
    have hk2 : (cntAll L2 : Int) ≤ 4194304 := by have h1 := cnt_few (K := 3) (B := 1048576) (t := tyExport) (by decide) ht2 hb2; omega
    have hk4 : (cntAll L4 : Int) ≤ 4194304 := by have h1 := cnt_few (K := 3) (B := 1048576) (t := tyQuestion) (by decide) ht4 hb4; omega
    have hk6 : (cntAll L6 : Int) ≤ 4194304 := by have h1 := cnt_few (K := 3) (B := 1048576) (t := tyQuestion) (by decide) ht6 hb6; omega
    obtain ⟨M2, hM2⟩ : ∃ M, relX a a2 L2 = M := ⟨_, rfl⟩
    obtain ⟨m2, hm2e⟩ : ∃ m, (relX a a2 L2).length = m := ⟨_, rfl⟩
    obtain ⟨g3, hg3⟩ : ∃ g, f3 = g := ⟨_, rfl⟩
    obtain ⟨M4, hM4⟩ : ∃ M, L4 = M := ⟨_, rfl⟩
    obtain ⟨m4, hm4e⟩ : ∃ m, n4 = m := ⟨_, rfl⟩
    have CSP : Hid (∀ (A2 : Option Addr) (c2 : Nat) (A4 : Option Addr) (c4 : Nat) (A6 : Option Addr) (c6 : Nat) (w : World), Lies w (.l L2) [.slice A2 n2 c2] → Lies w (.l L4) [.slice A4 n4 c4] → Lies w (.l L6) [.slice A6 n6 c6] → Calls Try.prog 33 #[.agg #[.int .i64 f0, .bool f1, .slice A2 n2 c2, .int .i64 f3, .slice A4 n4 c4, .int .i64 f5, .slice A6 n6 c6], .int .i64 a, .int .i64 a2] w (GivesL f0 f1 M2 m2 g3 M4 m4 f5 L6 n6 w)) := Lib.hid (fun A2 c2 A4 c4 A6 c6 w h2 h4 h6 => by rw [← hM2, ← hm2e, ← hg3, ← hM4, ← hm4e]; exact specRel f0 f1 L2 A2 n2 c2 f3 L4 A4 n4 c4 f5 L6 A6 n6 c6 a a2 w h2 ht2 h4 ht4 h6 ht6 hN2 hN4 hN6)
    have CIM : Hid (∀ (A2 : Option Addr) (c2 : Nat) (A4 : Option Addr) (c4 : Nat) (A6 : Option Addr) (c6 : Nat) (w : World), Lies w (.l L2) [.slice A2 n2 c2] → Lies w (.l L4) [.slice A4 n4 c4] → Lies w (.l L6) [.slice A6 n6 c6] → Calls Try.prog 18 #[.agg #[.int .i64 f0, .bool f1, .slice A2 n2 c2, .int .i64 f3, .slice A4 n4 c4, .int .i64 f5, .slice A6 n6 c6], .int .i64 a, .int .i64 a2] w (GivesL f0 f1 M2 m2 g3 M4 m4 f5 L6 n6 w)) := Lib.hid (fun A2 c2 A4 c4 A6 c6 w h2 h4 h6 => by rw [← hM2, ← hm2e, ← hg3, ← hM4, ← hm4e]; exact implRel f0 f1 L2 A2 n2 c2 f3 L4 A4 n4 c4 f5 L6 A6 n6 c6 a a2 w h2 ht2 h4 ht4 h6 ht6 hN2 hN4 hN6)
    have htM2 : ∀ d ∈ M2, Has tyExport d := hM2 ▸ relX_has ht2
    have hlen := relX_len a a2 L2
    rw [hm2e] at hlen
    have hm9 : m2 ≤ n2 := by have h1 := hc2.out; omega
    clear hlen
    have hmM2 : m2 ≤ 9223372036854775807 := by omega
    have hNM2 : m2 ≤ 1099511627776 := by omega
    have hkM2 : (cntAll M2 : Int) ≤ 8388608 := by have h3 := noneExport htM2; have h2 : M2.length = m2 := (by rw [← hM2, hm2e]); have h1 := cnt_few (K := 3) (B := 1048577) (t := tyExport) (by decide) htM2 (by simp only [Dat.bulk]; omega); omega
    have htM4 : ∀ d ∈ M4, Has tyQuestion d := hM4 ▸ ht4
    have hmM4 : m4 ≤ 9223372036854775807 := by omega
    have hNM4 : m4 ≤ 1099511627776 := by omega
    have hkM4 : (cntAll M4 : Int) ≤ 4194304 := by rw [← hM4]; exact hk4
    clear hM2 hm2e hg3 hM4 hm4e
    go_enter Try.func8, Try.ntmps8
    obtain ⟨za0, za1, za2, za3, za4, za5, za6⟩ := Ba.out.c7
    go_wp2_with fail
    refine (szLink f0 f1 L2 A2 n2 c2 f3 L4 A4 n4 c4 f5 L6 A6 n6 c6 1048576 _ (by omega) (by omega) (Z2.out.below HT.out) ht2 hm2 (Z4.out.below HT.out) ht4 hm4 (Z6.out.below HT.out) ht6 hm6).mono ?_
    rintro e w1 ⟨rfl, hb⟩
    rw [HR.out]
    clear za0 za1 za2 za3 za4 za5 za6
    replace Ba : Hid (Box (W.heap.size) [.int .i64 f0, .bool f1, .slice A2 n2 c2, .int .i64 f3, .slice A4 n4 c4, .int .i64 f5, .slice A6 n6 c6] w1) := Lib.hid (Ba.out.below hb)
    replace HT : Hid (Below W.heap.size W w1) := Lib.hid (HT.out.trans (hb.mono HT.out.size))
    have hsw1 : W.heap.size + 1 ≤ w1.heap.size := (by have h1 := hb.size; (try simp only [World.size_alloc] at h1); exact h1)
    clear hb
    obtain ⟨za0, za1, za2, za3, za4, za5, za6⟩ := Ba.out.c7
    go_wp2_with fail
    refine (toLink f0 f1 L2 A2 n2 c2 f3 L4 A4 n4 c4 f5 L6 A6 n6 c6 _ (Z2.out.below HT.out) ht2 hq2 (Z4.out.below HT.out) ht4 hq4 (Z6.out.below HT.out) ht6 hq6).mono ?_
    rintro e w2 ⟨tA2, tc2, tA4, tc4, tA6, tc6, a1, a2, rfl, hO2, hO4, hO6, ha0, ha1, ha2, hb⟩
    clear za0 za1 za2 za3 za4 za5 za6
    replace Ba : Hid (Box (W.heap.size) [.int .i64 f0, .bool f1, .slice A2 n2 c2, .int .i64 f3, .slice A4 n4 c4, .int .i64 f5, .slice A6 n6 c6] w2) := Lib.hid (Ba.out.below hb)
    replace HT : Hid (Below W.heap.size W w2) := Lib.hid (HT.out.trans (hb.mono HT.out.size))
    have hsw2 : w1.heap.size ≤ w2.heap.size := (by have h1 := hb.size; (try simp only [World.size_alloc] at h1); exact h1)
    have Ht : Hid (Own3 (w1.heap.size) (w2.heap.size) w2 L2 tA2 n2 tc2 L4 tA4 n4 tc4 L6 tA6 n6 tc6) := Lib.hid (by have h1 := Own3.of_rng hO2 hO4 hO6 ha0 ha1 ha2; (try simp only [World.size_alloc] at h1); exact h1)
    clear hO2 hO4 hO6 ha0 ha1 ha2 hb
    go_wp2_with fail
    refine (CSP.out tA2 tc2 tA4 tc4 tA6 tc6 _ Ht.out.l2 Ht.out.l4 Ht.out.l6).mono ?_
    rintro e w3 ⟨wA2, wc2, wA4, wc4, wA6, wc6, rfl, hO, hb⟩
    replace Ht : Hid (Own3 (w1.heap.size) (w2.heap.size) w3 L2 tA2 n2 tc2 L4 tA4 n4 tc4 L6 tA6 n6 tc6) := Lib.hid (Ht.out.below hb)
    replace Ba : Hid (Box (W.heap.size) [.int .i64 f0, .bool f1, .slice A2 n2 c2, .int .i64 f3, .slice A4 n4 c4, .int .i64 f5, .slice A6 n6 c6] w3) := Lib.hid (Ba.out.below hb)
    replace HT : Hid (Below W.heap.size W w3) := Lib.hid (HT.out.trans (hb.mono HT.out.size))
    have hsw3 : w2.heap.size ≤ w3.heap.size := (by have h1 := hb.size; (try simp only [World.size_alloc] at h1); exact h1)
    have Hw : Hid (Own3 (w2.heap.size) (w3.heap.size) w3 M2 wA2 m2 wc2 M4 wA4 m4 wc4 L6 wA6 n6 wc6) := Lib.hid (by have h1 := hO.own; (try simp only [World.size_alloc] at h1); exact h1)
    clear hO hb
    clear Ht
    have hb : Below w3.heap.size w3 (w3.alloc (.cells #[.int .i64 f0, .bool f1, .slice wA2 m2 wc2, .int .i64 g3, .slice wA4 m4 wc4, .int .i64 f5, .slice wA6 n6 wc6] 27)) := (Below.refl _ _).alloc (Nat.le_refl _) _
    replace Hw : Hid (Own3 (w2.heap.size) (w3.heap.size) (w3.alloc (.cells #[.int .i64 f0, .bool f1, .slice wA2 m2 wc2, .int .i64 g3, .slice wA4 m4 wc4, .int .i64 f5, .slice wA6 n6 wc6] 27)) M2 wA2 m2 wc2 M4 wA4 m4 wc4 L6 wA6 n6 wc6) := Lib.hid (Hw.out.below hb)
    replace Ba : Hid (Box (W.heap.size) [.int .i64 f0, .bool f1, .slice A2 n2 c2, .int .i64 f3, .slice A4 n4 c4, .int .i64 f5, .slice A6 n6 c6] (w3.alloc (.cells #[.int .i64 f0, .bool f1, .slice wA2 m2 wc2, .int .i64 g3, .slice wA4 m4 wc4, .int .i64 f5, .slice wA6 n6 wc6] 27))) := Lib.hid (Ba.out.below hb)
    replace HT : Hid (Below W.heap.size W (w3.alloc (.cells #[.int .i64 f0, .bool f1, .slice wA2 m2 wc2, .int .i64 g3, .slice wA4 m4 wc4, .int .i64 f5, .slice wA6 n6 wc6] 27))) := Lib.hid (HT.out.trans (hb.mono HT.out.size))
    clear hb
    have Bw : Hid (Box (w3.heap.size) [.int .i64 f0, .bool f1, .slice wA2 m2 wc2, .int .i64 g3, .slice wA4 m4 wc4, .int .i64 f5, .slice wA6 n6 wc6] (w3.alloc (.cells #[.int .i64 f0, .bool f1, .slice wA2 m2 wc2, .int .i64 g3, .slice wA4 m4 wc4, .int .i64 f5, .slice wA6 n6 wc6] 27))) := Lib.hid (by have h1 := Box.new w3 #[.int .i64 f0, .bool f1, .slice wA2 m2 wc2, .int .i64 g3, .slice wA4 m4 wc4, .int .i64 f5, .slice wA6 n6 wc6] 27; (try simp only [World.size_alloc] at h1); exact h1)
    obtain ⟨za0, za1, za2, za3, za4, za5, za6⟩ := Ba.out.c7
    go_wp2_with fail
    refine (toLink f0 f1 L2 A2 n2 c2 f3 L4 A4 n4 c4 f5 L6 A6 n6 c6 _ (Z2.out.below HT.out) ht2 hq2 (Z4.out.below HT.out) ht4 hq4 (Z6.out.below HT.out) ht6 hq6).mono ?_
    rintro e w4 ⟨xA2, xc2, xA4, xc4, xA6, xc6, a1, a2, rfl, hO2, hO4, hO6, ha0, ha1, ha2, hb⟩
    clear za0 za1 za2 za3 za4 za5 za6
    replace Hw : Hid (Own3 (w2.heap.size) (w3.heap.size) w4 M2 wA2 m2 wc2 M4 wA4 m4 wc4 L6 wA6 n6 wc6) := Lib.hid (Hw.out.below hb)
    replace Ba : Hid (Box (W.heap.size) [.int .i64 f0, .bool f1, .slice A2 n2 c2, .int .i64 f3, .slice A4 n4 c4, .int .i64 f5, .slice A6 n6 c6] w4) := Lib.hid (Ba.out.below hb)
    replace Bw : Hid (Box (w3.heap.size) [.int .i64 f0, .bool f1, .slice wA2 m2 wc2, .int .i64 g3, .slice wA4 m4 wc4, .int .i64 f5, .slice wA6 n6 wc6] w4) := Lib.hid (Bw.out.below hb)
    replace HT : Hid (Below W.heap.size W w4) := Lib.hid (HT.out.trans (hb.mono HT.out.size))
    have hsw4 : w3.heap.size + 1 ≤ w4.heap.size := (by have h1 := hb.size; (try simp only [World.size_alloc] at h1); exact h1)
    have Hx : Hid (Own3 (w3.heap.size + 1) (w4.heap.size) w4 L2 xA2 n2 xc2 L4 xA4 n4 xc4 L6 xA6 n6 xc6) := Lib.hid (by have h1 := Own3.of_rng hO2 hO4 hO6 ha0 ha1 ha2; (try simp only [World.size_alloc] at h1); exact h1)
    clear hO2 hO4 hO6 ha0 ha1 ha2 hb
    have hb : Below w4.heap.size w4 (w4.alloc (.cells #[.int .i64 f0, .bool f1, .slice xA2 n2 xc2, .int .i64 f3, .slice xA4 n4 xc4, .int .i64 f5, .slice xA6 n6 xc6] 27)) := (Below.refl _ _).alloc (Nat.le_refl _) _
    replace Hw : Hid (Own3 (w2.heap.size) (w3.heap.size) (w4.alloc (.cells #[.int .i64 f0, .bool f1, .slice xA2 n2 xc2, .int .i64 f3, .slice xA4 n4 xc4, .int .i64 f5, .slice xA6 n6 xc6] 27)) M2 wA2 m2 wc2 M4 wA4 m4 wc4 L6 wA6 n6 wc6) := Lib.hid (Hw.out.below hb)
    replace Hx : Hid (Own3 (w3.heap.size + 1) (w4.heap.size) (w4.alloc (.cells #[.int .i64 f0, .bool f1, .slice xA2 n2 xc2, .int .i64 f3, .slice xA4 n4 xc4, .int .i64 f5, .slice xA6 n6 xc6] 27)) L2 xA2 n2 xc2 L4 xA4 n4 xc4 L6 xA6 n6 xc6) := Lib.hid (Hx.out.below hb)
    replace Ba : Hid (Box (W.heap.size) [.int .i64 f0, .bool f1, .slice A2 n2 c2, .int .i64 f3, .slice A4 n4 c4, .int .i64 f5, .slice A6 n6 c6] (w4.alloc (.cells #[.int .i64 f0, .bool f1, .slice xA2 n2 xc2, .int .i64 f3, .slice xA4 n4 xc4, .int .i64 f5, .slice xA6 n6 xc6] 27))) := Lib.hid (Ba.out.below hb)
    replace Bw : Hid (Box (w3.heap.size) [.int .i64 f0, .bool f1, .slice wA2 m2 wc2, .int .i64 g3, .slice wA4 m4 wc4, .int .i64 f5, .slice wA6 n6 wc6] (w4.alloc (.cells #[.int .i64 f0, .bool f1, .slice xA2 n2 xc2, .int .i64 f3, .slice xA4 n4 xc4, .int .i64 f5, .slice xA6 n6 xc6] 27))) := Lib.hid (Bw.out.below hb)
    replace HT : Hid (Below W.heap.size W (w4.alloc (.cells #[.int .i64 f0, .bool f1, .slice xA2 n2 xc2, .int .i64 f3, .slice xA4 n4 xc4, .int .i64 f5, .slice xA6 n6 xc6] 27))) := Lib.hid (HT.out.trans (hb.mono HT.out.size))
    clear hb
    have Bx : Hid (Box (w4.heap.size) [.int .i64 f0, .bool f1, .slice xA2 n2 xc2, .int .i64 f3, .slice xA4 n4 xc4, .int .i64 f5, .slice xA6 n6 xc6] (w4.alloc (.cells #[.int .i64 f0, .bool f1, .slice xA2 n2 xc2, .int .i64 f3, .slice xA4 n4 xc4, .int .i64 f5, .slice xA6 n6 xc6] 27))) := Lib.hid (by have h1 := Box.new w4 #[.int .i64 f0, .bool f1, .slice xA2 n2 xc2, .int .i64 f3, .slice xA4 n4 xc4, .int .i64 f5, .slice xA6 n6 xc6] 27; (try simp only [World.size_alloc] at h1); exact h1)
    obtain ⟨zx0, zx1, zx2, zx3, zx4, zx5, zx6⟩ := Bx.out.c7
    go_wp2_with fail
    refine (CIM.out xA2 xc2 xA4 xc4 xA6 xc6 _ Hx.out.l2 Hx.out.l4 Hx.out.l6).mono ?_
    rintro e w5 ⟨gA2, gc2, gA4, gc4, gA6, gc6, rfl, hO, hb⟩
    clear zx0 zx1 zx2 zx3 zx4 zx5 zx6
    replace Hw : Hid (Own3 (w2.heap.size) (w3.heap.size) w5 M2 wA2 m2 wc2 M4 wA4 m4 wc4 L6 wA6 n6 wc6) := Lib.hid (Hw.out.below hb)
    replace Hx : Hid (Own3 (w3.heap.size + 1) (w4.heap.size) w5 L2 xA2 n2 xc2 L4 xA4 n4 xc4 L6 xA6 n6 xc6) := Lib.hid (Hx.out.below hb)
    replace Ba : Hid (Box (W.heap.size) [.int .i64 f0, .bool f1, .slice A2 n2 c2, .int .i64 f3, .slice A4 n4 c4, .int .i64 f5, .slice A6 n6 c6] w5) := Lib.hid (Ba.out.below hb)
    replace Bw : Hid (Box (w3.heap.size) [.int .i64 f0, .bool f1, .slice wA2 m2 wc2, .int .i64 g3, .slice wA4 m4 wc4, .int .i64 f5, .slice wA6 n6 wc6] w5) := Lib.hid (Bw.out.below hb)
    replace Bx : Hid (Box (w4.heap.size) [.int .i64 f0, .bool f1, .slice xA2 n2 xc2, .int .i64 f3, .slice xA4 n4 xc4, .int .i64 f5, .slice xA6 n6 xc6] w5) := Lib.hid (Bx.out.below hb)
    replace HT : Hid (Below W.heap.size W w5) := Lib.hid (HT.out.trans (hb.mono HT.out.size))
    have hsw5 : w4.heap.size + 1 ≤ w5.heap.size := (by have h1 := hb.size; (try simp only [World.size_alloc] at h1); exact h1)
    have Hg : Hid (Own3 (w4.heap.size + 1) (w5.heap.size) w5 M2 gA2 m2 gc2 M4 gA4 m4 gc4 L6 gA6 n6 gc6) := Lib.hid (by have h1 := hO.own; (try simp only [World.size_alloc] at h1); exact h1)
    clear hO hb
    have hb : Below w5.heap.size w5 (w5.alloc (.cells #[.int .i64 f0, .bool f1, .slice gA2 m2 gc2, .int .i64 g3, .slice gA4 m4 gc4, .int .i64 f5, .slice gA6 n6 gc6] 27)) := (Below.refl _ _).alloc (Nat.le_refl _) _
    replace Hw : Hid (Own3 (w2.heap.size) (w3.heap.size) (w5.alloc (.cells #[.int .i64 f0, .bool f1, .slice gA2 m2 gc2, .int .i64 g3, .slice gA4 m4 gc4, .int .i64 f5, .slice gA6 n6 gc6] 27)) M2 wA2 m2 wc2 M4 wA4 m4 wc4 L6 wA6 n6 wc6) := Lib.hid (Hw.out.below hb)
    replace Hx : Hid (Own3 (w3.heap.size + 1) (w4.heap.size) (w5.alloc (.cells #[.int .i64 f0, .bool f1, .slice gA2 m2 gc2, .int .i64 g3, .slice gA4 m4 gc4, .int .i64 f5, .slice gA6 n6 gc6] 27)) L2 xA2 n2 xc2 L4 xA4 n4 xc4 L6 xA6 n6 xc6) := Lib.hid (Hx.out.below hb)
    replace Hg : Hid (Own3 (w4.heap.size + 1) (w5.heap.size) (w5.alloc (.cells #[.int .i64 f0, .bool f1, .slice gA2 m2 gc2, .int .i64 g3, .slice gA4 m4 gc4, .int .i64 f5, .slice gA6 n6 gc6] 27)) M2 gA2 m2 gc2 M4 gA4 m4 gc4 L6 gA6 n6 gc6) := Lib.hid (Hg.out.below hb)
    replace Ba : Hid (Box (W.heap.size) [.int .i64 f0, .bool f1, .slice A2 n2 c2, .int .i64 f3, .slice A4 n4 c4, .int .i64 f5, .slice A6 n6 c6] (w5.alloc (.cells #[.int .i64 f0, .bool f1, .slice gA2 m2 gc2, .int .i64 g3, .slice gA4 m4 gc4, .int .i64 f5, .slice gA6 n6 gc6] 27))) := Lib.hid (Ba.out.below hb)
    replace Bw : Hid (Box (w3.heap.size) [.int .i64 f0, .bool f1, .slice wA2 m2 wc2, .int .i64 g3, .slice wA4 m4 wc4, .int .i64 f5, .slice wA6 n6 wc6] (w5.alloc (.cells #[.int .i64 f0, .bool f1, .slice gA2 m2 gc2, .int .i64 g3, .slice gA4 m4 gc4, .int .i64 f5, .slice gA6 n6 gc6] 27))) := Lib.hid (Bw.out.below hb)
    replace Bx : Hid (Box (w4.heap.size) [.int .i64 f0, .bool f1, .slice xA2 n2 xc2, .int .i64 f3, .slice xA4 n4 xc4, .int .i64 f5, .slice xA6 n6 xc6] (w5.alloc (.cells #[.int .i64 f0, .bool f1, .slice gA2 m2 gc2, .int .i64 g3, .slice gA4 m4 gc4, .int .i64 f5, .slice gA6 n6 gc6] 27))) := Lib.hid (Bx.out.below hb)
    replace HT : Hid (Below W.heap.size W (w5.alloc (.cells #[.int .i64 f0, .bool f1, .slice gA2 m2 gc2, .int .i64 g3, .slice gA4 m4 gc4, .int .i64 f5, .slice gA6 n6 gc6] 27))) := Lib.hid (HT.out.trans (hb.mono HT.out.size))
    clear hb
    have Bg : Hid (Box (w5.heap.size) [.int .i64 f0, .bool f1, .slice gA2 m2 gc2, .int .i64 g3, .slice gA4 m4 gc4, .int .i64 f5, .slice gA6 n6 gc6] (w5.alloc (.cells #[.int .i64 f0, .bool f1, .slice gA2 m2 gc2, .int .i64 g3, .slice gA4 m4 gc4, .int .i64 f5, .slice gA6 n6 gc6] 27))) := Lib.hid (by have h1 := Box.new w5 #[.int .i64 f0, .bool f1, .slice gA2 m2 gc2, .int .i64 g3, .slice gA4 m4 gc4, .int .i64 f5, .slice gA6 n6 gc6] 27; (try simp only [World.size_alloc] at h1); exact h1)
    obtain ⟨zg0, zg1, zg2, zg3, zg4, zg5, zg6⟩ := Bg.out.c7
    obtain ⟨zw0, zw1, zw2, zw3, zw4, zw5, zw6⟩ := Bw.out.c7
    go_wp2_with fail
    refine (eqLink f0 f1 M2 gA2 m2 gc2 g3 M4 gA4 m4 gc4 f5 L6 gA6 n6 gc6 wA2 wc2 wA4 wc4 wA6 wc6 _ Hg.out.l2 Hw.out.l2 htM2 hmM2 Hg.out.l4 Hw.out.l4 htM4 hmM4 Hg.out.l6 Hw.out.l6 ht6 hm6).mono ?_
    rintro e w6 ⟨rfl, hb⟩
    clear zg0 zg1 zg2 zg3 zg4 zg5 zg6
    clear zw0 zw1 zw2 zw3 zw4 zw5 zw6
    replace Hw : Hid (Own3 (w2.heap.size) (w3.heap.size) w6 M2 wA2 m2 wc2 M4 wA4 m4 wc4 L6 wA6 n6 wc6) := Lib.hid (Hw.out.below hb)
    replace Hx : Hid (Own3 (w3.heap.size + 1) (w4.heap.size) w6 L2 xA2 n2 xc2 L4 xA4 n4 xc4 L6 xA6 n6 xc6) := Lib.hid (Hx.out.below hb)
    replace Hg : Hid (Own3 (w4.heap.size + 1) (w5.heap.size) w6 M2 gA2 m2 gc2 M4 gA4 m4 gc4 L6 gA6 n6 gc6) := Lib.hid (Hg.out.below hb)
    replace Ba : Hid (Box (W.heap.size) [.int .i64 f0, .bool f1, .slice A2 n2 c2, .int .i64 f3, .slice A4 n4 c4, .int .i64 f5, .slice A6 n6 c6] w6) := Lib.hid (Ba.out.below hb)
    replace Bw : Hid (Box (w3.heap.size) [.int .i64 f0, .bool f1, .slice wA2 m2 wc2, .int .i64 g3, .slice wA4 m4 wc4, .int .i64 f5, .slice wA6 n6 wc6] w6) := Lib.hid (Bw.out.below hb)
    replace Bx : Hid (Box (w4.heap.size) [.int .i64 f0, .bool f1, .slice xA2 n2 xc2, .int .i64 f3, .slice xA4 n4 xc4, .int .i64 f5, .slice xA6 n6 xc6] w6) := Lib.hid (Bx.out.below hb)
    replace Bg : Hid (Box (w5.heap.size) [.int .i64 f0, .bool f1, .slice gA2 m2 gc2, .int .i64 g3, .slice gA4 m4 gc4, .int .i64 f5, .slice gA6 n6 gc6] w6) := Lib.hid (Bg.out.below hb)
    replace HT : Hid (Below W.heap.size W w6) := Lib.hid (HT.out.trans (hb.mono HT.out.size))
    have hsw6 : w5.heap.size + 1 ≤ w6.heap.size := (by have h1 := hb.size; (try simp only [World.size_alloc] at h1); exact h1)
    clear hb
    obtain ⟨zx0, zx1, zx2, zx3, zx4, zx5, zx6⟩ := Bx.out.c7
    obtain ⟨za0, za1, za2, za3, za4, za5, za6⟩ := Ba.out.c7
    go_wp2_with fail
    clear zx0 zx1 zx2 zx3 zx4 zx5 zx6
    clear za0 za1 za2 za3 za4 za5 za6
    have hb : Below w6.heap.size w6 w6.drew := (Below.refl _ _).drew
    replace Hw : Hid (Own3 (w2.heap.size) (w3.heap.size) w6.drew M2 wA2 m2 wc2 M4 wA4 m4 wc4 L6 wA6 n6 wc6) := Lib.hid (Hw.out.below hb)
    replace Hx : Hid (Own3 (w3.heap.size + 1) (w4.heap.size) w6.drew L2 xA2 n2 xc2 L4 xA4 n4 xc4 L6 xA6 n6 xc6) := Lib.hid (Hx.out.below hb)
    replace Hg : Hid (Own3 (w4.heap.size + 1) (w5.heap.size) w6.drew M2 gA2 m2 gc2 M4 gA4 m4 gc4 L6 gA6 n6 gc6) := Lib.hid (Hg.out.below hb)
    replace Ba : Hid (Box (W.heap.size) [.int .i64 f0, .bool f1, .slice A2 n2 c2, .int .i64 f3, .slice A4 n4 c4, .int .i64 f5, .slice A6 n6 c6] w6.drew) := Lib.hid (Ba.out.below hb)
    replace Bw : Hid (Box (w3.heap.size) [.int .i64 f0, .bool f1, .slice wA2 m2 wc2, .int .i64 g3, .slice wA4 m4 wc4, .int .i64 f5, .slice wA6 n6 wc6] w6.drew) := Lib.hid (Bw.out.below hb)
    replace Bx : Hid (Box (w4.heap.size) [.int .i64 f0, .bool f1, .slice xA2 n2 xc2, .int .i64 f3, .slice xA4 n4 xc4, .int .i64 f5, .slice xA6 n6 xc6] w6.drew) := Lib.hid (Bx.out.below hb)
    replace Bg : Hid (Box (w5.heap.size) [.int .i64 f0, .bool f1, .slice gA2 m2 gc2, .int .i64 g3, .slice gA4 m4 gc4, .int .i64 f5, .slice gA6 n6 gc6] w6.drew) := Lib.hid (Bg.out.below hb)
    replace HT : Hid (Below W.heap.size W w6.drew) := Lib.hid (HT.out.trans (hb.mono HT.out.size))
    clear hb
    go_region_held3 (fun w' => (w'.cell? ⟨w4.heap.size, 0, none⟩ = some (.int .i64 f0) ∧ w'.cell? ⟨w4.heap.size, 1, none⟩ = some (.bool f1) ∧ w'.cell? ⟨w4.heap.size, 2, none⟩ = some (.slice xA2 n2 xc2) ∧ w'.cell? ⟨w4.heap.size, 3, none⟩ = some (.int .i64 f3) ∧ w'.cell? ⟨w4.heap.size, 4, none⟩ = some (.slice xA4 n4 xc4) ∧ w'.cell? ⟨w4.heap.size, 5, none⟩ = some (.int .i64 f5) ∧ w'.cell? ⟨w4.heap.size, 6, none⟩ = some (.slice xA6 n6 xc6)) ∧ (w'.cell? ⟨W.heap.size, 0, none⟩ = some (.int .i64 f0) ∧ w'.cell? ⟨W.heap.size, 1, none⟩ = some (.bool f1) ∧ w'.cell? ⟨W.heap.size, 2, none⟩ = some (.slice A2 n2 c2) ∧ w'.cell? ⟨W.heap.size, 3, none⟩ = some (.int .i64 f3) ∧ w'.cell? ⟨W.heap.size, 4, none⟩ = some (.slice A4 n4 c4) ∧ w'.cell? ⟨W.heap.size, 5, none⟩ = some (.int .i64 f5) ∧ w'.cell? ⟨W.heap.size, 6, none⟩ = some (.slice A6 n6 c6)))
      (first | with_reducible exact ⟨Bx.out.c7, Ba.out.c7⟩ | go_keep)
      (first
      | (go_at_call 31; (with_reducible refine (toLink f0 f1 L2 A2 n2 c2 f3 L4 A4 n4 c4 f5 L6 A6 n6 c6 _ (Z2.out.below HT.out) ht2 hq2 (Z4.out.below HT.out) ht4 hq4 (Z6.out.below HT.out) ht6 hq6).mono ?_); rintro e u5 ⟨uA2, uc2, uA4, uc4, uA6, uc6, a1, a2, rfl, hO2, hO4, hO6, ha0, ha1, ha2, hb⟩; replace Hw : Hid (Own3 (w2.heap.size) (w3.heap.size) u5 M2 wA2 m2 wc2 M4 wA4 m4 wc4 L6 wA6 n6 wc6) := Lib.hid (Hw.out.below hb); replace Hx : Hid (Own3 (w3.heap.size + 1) (w4.heap.size) u5 L2 xA2 n2 xc2 L4 xA4 n4 xc4 L6 xA6 n6 xc6) := Lib.hid (Hx.out.below hb); replace Hg : Hid (Own3 (w4.heap.size + 1) (w5.heap.size) u5 M2 gA2 m2 gc2 M4 gA4 m4 gc4 L6 gA6 n6 gc6) := Lib.hid (Hg.out.below hb); replace Ba : Hid (Box (W.heap.size) [.int .i64 f0, .bool f1, .slice A2 n2 c2, .int .i64 f3, .slice A4 n4 c4, .int .i64 f5, .slice A6 n6 c6] u5) := Lib.hid (Ba.out.below hb); replace Bw : Hid (Box (w3.heap.size) [.int .i64 f0, .bool f1, .slice wA2 m2 wc2, .int .i64 g3, .slice wA4 m4 wc4, .int .i64 f5, .slice wA6 n6 wc6] u5) := Lib.hid (Bw.out.below hb); replace Bx : Hid (Box (w4.heap.size) [.int .i64 f0, .bool f1, .slice xA2 n2 xc2, .int .i64 f3, .slice xA4 n4 xc4, .int .i64 f5, .slice xA6 n6 xc6] u5) := Lib.hid (Bx.out.below hb); replace Bg : Hid (Box (w5.heap.size) [.int .i64 f0, .bool f1, .slice gA2 m2 gc2, .int .i64 g3, .slice gA4 m4 gc4, .int .i64 f5, .slice gA6 n6 gc6] u5) := Lib.hid (Bg.out.below hb); replace HT : Hid (Below W.heap.size W u5) := Lib.hid (HT.out.trans (hb.mono HT.out.size)); have hsu5 : w6.heap.size ≤ u5.heap.size := (by have h1 := hb.size; (try simp only [World.size_alloc, World.size_drew] at h1); exact h1); have Hu : Hid (Own3 (w6.heap.size) (u5.heap.size) u5 L2 uA2 n2 uc2 L4 uA4 n4 uc4 L6 uA6 n6 uc6) := Lib.hid (by have h1 := Own3.of_rng hO2 hO4 hO6 ha0 ha1 ha2; (try simp only [World.size_alloc, World.size_drew] at h1); exact h1); clear hO2 hO4 hO6 ha0 ha1 ha2 hb)
      | (go_at_call 26; (with_reducible refine (eqLink f0 f1 L2 xA2 n2 xc2 f3 L4 xA4 n4 xc4 f5 L6 xA6 n6 xc6 uA2 uc2 uA4 uc4 uA6 uc6 _ Hx.out.l2 Hu.out.l2 ht2 hm2 Hx.out.l4 Hu.out.l4 ht4 hm4 Hx.out.l6 Hu.out.l6 ht6 hm6).mono ?_); rintro e u6 ⟨rfl, hb⟩; replace Hw : Hid (Own3 (w2.heap.size) (w3.heap.size) u6 M2 wA2 m2 wc2 M4 wA4 m4 wc4 L6 wA6 n6 wc6) := Lib.hid (Hw.out.below hb); replace Hx : Hid (Own3 (w3.heap.size + 1) (w4.heap.size) u6 L2 xA2 n2 xc2 L4 xA4 n4 xc4 L6 xA6 n6 xc6) := Lib.hid (Hx.out.below hb); replace Hg : Hid (Own3 (w4.heap.size + 1) (w5.heap.size) u6 M2 gA2 m2 gc2 M4 gA4 m4 gc4 L6 gA6 n6 gc6) := Lib.hid (Hg.out.below hb); replace Hu : Hid (Own3 (w6.heap.size) (u5.heap.size) u6 L2 uA2 n2 uc2 L4 uA4 n4 uc4 L6 uA6 n6 uc6) := Lib.hid (Hu.out.below hb); replace Ba : Hid (Box (W.heap.size) [.int .i64 f0, .bool f1, .slice A2 n2 c2, .int .i64 f3, .slice A4 n4 c4, .int .i64 f5, .slice A6 n6 c6] u6) := Lib.hid (Ba.out.below hb); replace Bw : Hid (Box (w3.heap.size) [.int .i64 f0, .bool f1, .slice wA2 m2 wc2, .int .i64 g3, .slice wA4 m4 wc4, .int .i64 f5, .slice wA6 n6 wc6] u6) := Lib.hid (Bw.out.below hb); replace Bx : Hid (Box (w4.heap.size) [.int .i64 f0, .bool f1, .slice xA2 n2 xc2, .int .i64 f3, .slice xA4 n4 xc4, .int .i64 f5, .slice xA6 n6 xc6] u6) := Lib.hid (Bx.out.below hb); replace Bg : Hid (Box (w5.heap.size) [.int .i64 f0, .bool f1, .slice gA2 m2 gc2, .int .i64 g3, .slice gA4 m4 gc4, .int .i64 f5, .slice gA6 n6 gc6] u6) := Lib.hid (Bg.out.below hb); replace HT : Hid (Below W.heap.size W u6) := Lib.hid (HT.out.trans (hb.mono HT.out.size)); have hsu6 : u5.heap.size ≤ u6.heap.size := hb.size; clear hb))
    all_goals (
      clear Hu
      obtain ⟨zx0, zx1, zx2, zx3, zx4, zx5, zx6⟩ := Bx.out.c7
      go_wp2_with fail
      refine (markLink f0 f1 L2 xA2 n2 xc2 f3 L4 xA4 n4 xc4 f5 L6 xA6 n6 xc6 1 (w3.heap.size + 1) (w4.heap.size) _ Hx.out ht2 ht4 ht6 (by omega) (by omega) hN2 hN4 hN6 (by omega)).mono ?_
      rintro e w17 ⟨rfl, hO, hb⟩
      clear zx0 zx1 zx2 zx3 zx4 zx5 zx6
      replace Hw : Hid (Own3 (w2.heap.size) (w3.heap.size) w17 M2 wA2 m2 wc2 M4 wA4 m4 wc4 L6 wA6 n6 wc6) := Lib.hid (Hw.out.touch hb (rng_apart (by omega)))
      replace Hg : Hid (Own3 (w4.heap.size + 1) (w5.heap.size) w17 M2 gA2 m2 gc2 M4 gA4 m4 gc4 L6 gA6 n6 gc6) := Lib.hid (Hg.out.touch hb (rng_apart (by omega)))
      replace Ba : Hid (Box (W.heap.size) [.int .i64 f0, .bool f1, .slice A2 n2 c2, .int .i64 f3, .slice A4 n4 c4, .int .i64 f5, .slice A6 n6 c6] w17) := Lib.hid (Ba.out.touch hb (rng_out (by omega)))
      replace Bw : Hid (Box (w3.heap.size) [.int .i64 f0, .bool f1, .slice wA2 m2 wc2, .int .i64 g3, .slice wA4 m4 wc4, .int .i64 f5, .slice wA6 n6 wc6] w17) := Lib.hid (Bw.out.touch hb (rng_out (by omega)))
      replace Bx : Hid (Box (w4.heap.size) [.int .i64 f0, .bool f1, .slice xA2 n2 xc2, .int .i64 f3, .slice xA4 n4 xc4, .int .i64 f5, .slice xA6 n6 xc6] w17) := Lib.hid (Bx.out.touch hb (rng_out (by omega)))
      replace Bg : Hid (Box (w5.heap.size) [.int .i64 f0, .bool f1, .slice gA2 m2 gc2, .int .i64 g3, .slice gA4 m4 gc4, .int .i64 f5, .slice gA6 n6 gc6] w17) := Lib.hid (Bg.out.touch hb (rng_out (by omega)))
      replace HT : Hid (Below W.heap.size W w17) := Lib.hid (hb.low HT.out (by omega))
      have hsw17 : u6.heap.size ≤ w17.heap.size := hb.size
      replace Hx : Hid (Own3 (w3.heap.size + 1) (w4.heap.size) w17 (mkAll L2 1) xA2 n2 xc2 (mkAll L4 (1 + cntAll L2)) xA4 n4 xc4 (mkAll L6 (1 + cntAll L2 + cntAll L4)) xA6 n6 xc6) := Lib.hid hO
      clear hO hb
      have hka : (0 : Int) ≤ 1 + cntAll L2 + cntAll L4 + cntAll L6 := by omega
      have hkb : (decide ((1 : Int) + cntAll L2 + cntAll L4 + cntAll L6 < 0)) = false := by (simp; try omega)
      obtain ⟨zg0, zg1, zg2, zg3, zg4, zg5, zg6⟩ := Bg.out.c7
      obtain ⟨zw0, zw1, zw2, zw3, zw4, zw5, zw6⟩ := Bw.out.c7
      go_wp2_with fail
      refine (eqLink f0 f1 M2 gA2 m2 gc2 g3 M4 gA4 m4 gc4 f5 L6 gA6 n6 gc6 wA2 wc2 wA4 wc4 wA6 wc6 _ Hg.out.l2 Hw.out.l2 htM2 hmM2 Hg.out.l4 Hw.out.l4 htM4 hmM4 Hg.out.l6 Hw.out.l6 ht6 hm6).mono ?_
      rintro e w18 ⟨rfl, hb⟩
      clear zg0 zg1 zg2 zg3 zg4 zg5 zg6
      clear zw0 zw1 zw2 zw3 zw4 zw5 zw6
      replace Hw : Hid (Own3 (w2.heap.size) (w3.heap.size) w18 M2 wA2 m2 wc2 M4 wA4 m4 wc4 L6 wA6 n6 wc6) := Lib.hid (Hw.out.below hb)
      replace Hx : Hid (Own3 (w3.heap.size + 1) (w4.heap.size) w18 (mkAll L2 1) xA2 n2 xc2 (mkAll L4 (1 + cntAll L2)) xA4 n4 xc4 (mkAll L6 (1 + cntAll L2 + cntAll L4)) xA6 n6 xc6) := Lib.hid (Hx.out.below hb)
      replace Hg : Hid (Own3 (w4.heap.size + 1) (w5.heap.size) w18 M2 gA2 m2 gc2 M4 gA4 m4 gc4 L6 gA6 n6 gc6) := Lib.hid (Hg.out.below hb)
      replace Ba : Hid (Box (W.heap.size) [.int .i64 f0, .bool f1, .slice A2 n2 c2, .int .i64 f3, .slice A4 n4 c4, .int .i64 f5, .slice A6 n6 c6] w18) := Lib.hid (Ba.out.below hb)
      replace Bw : Hid (Box (w3.heap.size) [.int .i64 f0, .bool f1, .slice wA2 m2 wc2, .int .i64 g3, .slice wA4 m4 wc4, .int .i64 f5, .slice wA6 n6 wc6] w18) := Lib.hid (Bw.out.below hb)
      replace Bx : Hid (Box (w4.heap.size) [.int .i64 f0, .bool f1, .slice xA2 n2 xc2, .int .i64 f3, .slice xA4 n4 xc4, .int .i64 f5, .slice xA6 n6 xc6] w18) := Lib.hid (Bx.out.below hb)
      replace Bg : Hid (Box (w5.heap.size) [.int .i64 f0, .bool f1, .slice gA2 m2 gc2, .int .i64 g3, .slice gA4 m4 gc4, .int .i64 f5, .slice gA6 n6 gc6] w18) := Lib.hid (Bg.out.below hb)
      replace HT : Hid (Below W.heap.size W w18) := Lib.hid (HT.out.trans (hb.mono HT.out.size))
      have hsw18 : w17.heap.size ≤ w18.heap.size := (by have h1 := hb.size; (try simp only [World.size_alloc] at h1); exact h1)
      clear hb
      clear Hx
      clear hka hkb
      obtain ⟨zg0, zg1, zg2, zg3, zg4, zg5, zg6⟩ := Bg.out.c7
      go_wp2_with fail
      refine (markLink f0 f1 M2 gA2 m2 gc2 g3 M4 gA4 m4 gc4 f5 L6 gA6 n6 gc6 1 (w4.heap.size + 1) (w5.heap.size) _ Hg.out htM2 htM4 ht6 (by omega) (by omega) hNM2 hNM4 hN6 (by omega)).mono ?_
      rintro e w19 ⟨rfl, hO, hb⟩
      clear zg0 zg1 zg2 zg3 zg4 zg5 zg6
      replace Hw : Hid (Own3 (w2.heap.size) (w3.heap.size) w19 M2 wA2 m2 wc2 M4 wA4 m4 wc4 L6 wA6 n6 wc6) := Lib.hid (Hw.out.touch hb (rng_apart (by omega)))
      replace Ba : Hid (Box (W.heap.size) [.int .i64 f0, .bool f1, .slice A2 n2 c2, .int .i64 f3, .slice A4 n4 c4, .int .i64 f5, .slice A6 n6 c6] w19) := Lib.hid (Ba.out.touch hb (rng_out (by omega)))
      replace Bw : Hid (Box (w3.heap.size) [.int .i64 f0, .bool f1, .slice wA2 m2 wc2, .int .i64 g3, .slice wA4 m4 wc4, .int .i64 f5, .slice wA6 n6 wc6] w19) := Lib.hid (Bw.out.touch hb (rng_out (by omega)))
      replace Bx : Hid (Box (w4.heap.size) [.int .i64 f0, .bool f1, .slice xA2 n2 xc2, .int .i64 f3, .slice xA4 n4 xc4, .int .i64 f5, .slice xA6 n6 xc6] w19) := Lib.hid (Bx.out.touch hb (rng_out (by omega)))
      replace Bg : Hid (Box (w5.heap.size) [.int .i64 f0, .bool f1, .slice gA2 m2 gc2, .int .i64 g3, .slice gA4 m4 gc4, .int .i64 f5, .slice gA6 n6 gc6] w19) := Lib.hid (Bg.out.touch hb (rng_out (by omega)))
      replace HT : Hid (Below W.heap.size W w19) := Lib.hid (hb.low HT.out (by omega))
      have hsw19 : w18.heap.size ≤ w19.heap.size := hb.size
      replace Hg : Hid (Own3 (w4.heap.size + 1) (w5.heap.size) w19 (mkAll M2 1) gA2 m2 gc2 (mkAll M4 (1 + cntAll M2)) gA4 m4 gc4 (mkAll L6 (1 + cntAll M2 + cntAll M4)) gA6 n6 gc6) := Lib.hid hO
      clear hO hb
      have hka : (0 : Int) ≤ 1 + cntAll M2 + cntAll M4 + cntAll L6 := by omega
      have hkb : (decide ((1 : Int) + cntAll M2 + cntAll M4 + cntAll L6 < 0)) = false := by (simp; try omega)
      obtain ⟨zg0, zg1, zg2, zg3, zg4, zg5, zg6⟩ := Bg.out.c7
      go_wp2_with fail
      refine (heldLink f0 f1 M2 gA2 m2 gc2 g3 M4 gA4 m4 gc4 f5 L6 gA6 n6 gc6 1 _ Hg.out.l2 Hg.out.l4 Hg.out.l6 htM2 htM4 ht6 (by omega) (by omega) hNM2 hNM4 hN6).mono ?_
      rintro e w20 ⟨rfl, hb⟩
      clear zg0 zg1 zg2 zg3 zg4 zg5 zg6
      replace Hw : Hid (Own3 (w2.heap.size) (w3.heap.size) w20 M2 wA2 m2 wc2 M4 wA4 m4 wc4 L6 wA6 n6 wc6) := Lib.hid (Hw.out.below hb)
      replace Hg : Hid (Own3 (w4.heap.size + 1) (w5.heap.size) w20 (mkAll M2 1) gA2 m2 gc2 (mkAll M4 (1 + cntAll M2)) gA4 m4 gc4 (mkAll L6 (1 + cntAll M2 + cntAll M4)) gA6 n6 gc6) := Lib.hid (Hg.out.below hb)
      replace Ba : Hid (Box (W.heap.size) [.int .i64 f0, .bool f1, .slice A2 n2 c2, .int .i64 f3, .slice A4 n4 c4, .int .i64 f5, .slice A6 n6 c6] w20) := Lib.hid (Ba.out.below hb)
      replace Bw : Hid (Box (w3.heap.size) [.int .i64 f0, .bool f1, .slice wA2 m2 wc2, .int .i64 g3, .slice wA4 m4 wc4, .int .i64 f5, .slice wA6 n6 wc6] w20) := Lib.hid (Bw.out.below hb)
      replace Bx : Hid (Box (w4.heap.size) [.int .i64 f0, .bool f1, .slice xA2 n2 xc2, .int .i64 f3, .slice xA4 n4 xc4, .int .i64 f5, .slice xA6 n6 xc6] w20) := Lib.hid (Bx.out.below hb)
      replace Bg : Hid (Box (w5.heap.size) [.int .i64 f0, .bool f1, .slice gA2 m2 gc2, .int .i64 g3, .slice gA4 m4 gc4, .int .i64 f5, .slice gA6 n6 gc6] w20) := Lib.hid (Bg.out.below hb)
      replace HT : Hid (Below W.heap.size W w20) := Lib.hid (HT.out.trans (hb.mono HT.out.size))
      have hsw20 : w19.heap.size ≤ w20.heap.size := (by have h1 := hb.size; (try simp only [World.size_alloc] at h1); exact h1)
      clear hb
      obtain ⟨za0, za1, za2, za3, za4, za5, za6⟩ := Ba.out.c7
      go_wp2_with fail
      refine (toLink f0 f1 L2 A2 n2 c2 f3 L4 A4 n4 c4 f5 L6 A6 n6 c6 _ (Z2.out.below HT.out) ht2 hq2 (Z4.out.below HT.out) ht4 hq4 (Z6.out.below HT.out) ht6 hq6).mono ?_
      rintro e w21 ⟨vA2, vc2, vA4, vc4, vA6, vc6, a1, a2, rfl, hO2, hO4, hO6, ha0, ha1, ha2, hb⟩
      clear za0 za1 za2 za3 za4 za5 za6
      replace Hw : Hid (Own3 (w2.heap.size) (w3.heap.size) w21 M2 wA2 m2 wc2 M4 wA4 m4 wc4 L6 wA6 n6 wc6) := Lib.hid (Hw.out.below hb)
      replace Hg : Hid (Own3 (w4.heap.size + 1) (w5.heap.size) w21 (mkAll M2 1) gA2 m2 gc2 (mkAll M4 (1 + cntAll M2)) gA4 m4 gc4 (mkAll L6 (1 + cntAll M2 + cntAll M4)) gA6 n6 gc6) := Lib.hid (Hg.out.below hb)
      replace Ba : Hid (Box (W.heap.size) [.int .i64 f0, .bool f1, .slice A2 n2 c2, .int .i64 f3, .slice A4 n4 c4, .int .i64 f5, .slice A6 n6 c6] w21) := Lib.hid (Ba.out.below hb)
      replace Bw : Hid (Box (w3.heap.size) [.int .i64 f0, .bool f1, .slice wA2 m2 wc2, .int .i64 g3, .slice wA4 m4 wc4, .int .i64 f5, .slice wA6 n6 wc6] w21) := Lib.hid (Bw.out.below hb)
      replace Bx : Hid (Box (w4.heap.size) [.int .i64 f0, .bool f1, .slice xA2 n2 xc2, .int .i64 f3, .slice xA4 n4 xc4, .int .i64 f5, .slice xA6 n6 xc6] w21) := Lib.hid (Bx.out.below hb)
      replace Bg : Hid (Box (w5.heap.size) [.int .i64 f0, .bool f1, .slice gA2 m2 gc2, .int .i64 g3, .slice gA4 m4 gc4, .int .i64 f5, .slice gA6 n6 gc6] w21) := Lib.hid (Bg.out.below hb)
      replace HT : Hid (Below W.heap.size W w21) := Lib.hid (HT.out.trans (hb.mono HT.out.size))
      have hsw21 : w20.heap.size ≤ w21.heap.size := (by have h1 := hb.size; (try simp only [World.size_alloc] at h1); exact h1)
      have Hv : Hid (Own3 (w20.heap.size) (w21.heap.size) w21 L2 vA2 n2 vc2 L4 vA4 n4 vc4 L6 vA6 n6 vc6) := Lib.hid (by have h1 := Own3.of_rng hO2 hO4 hO6 ha0 ha1 ha2; (try simp only [World.size_alloc] at h1); exact h1)
      clear hO2 hO4 hO6 ha0 ha1 ha2 hb
      go_wp2_with fail
      refine (CIM.out vA2 vc2 vA4 vc4 vA6 vc6 _ Hv.out.l2 Hv.out.l4 Hv.out.l6).mono ?_
      rintro e w22 ⟨hA2, hc2, hA4, hc4, hA6, hc6, rfl, hO, hb⟩
      replace Hw : Hid (Own3 (w2.heap.size) (w3.heap.size) w22 M2 wA2 m2 wc2 M4 wA4 m4 wc4 L6 wA6 n6 wc6) := Lib.hid (Hw.out.below hb)
      replace Hg : Hid (Own3 (w4.heap.size + 1) (w5.heap.size) w22 (mkAll M2 1) gA2 m2 gc2 (mkAll M4 (1 + cntAll M2)) gA4 m4 gc4 (mkAll L6 (1 + cntAll M2 + cntAll M4)) gA6 n6 gc6) := Lib.hid (Hg.out.below hb)
      replace Hv : Hid (Own3 (w20.heap.size) (w21.heap.size) w22 L2 vA2 n2 vc2 L4 vA4 n4 vc4 L6 vA6 n6 vc6) := Lib.hid (Hv.out.below hb)
      replace Ba : Hid (Box (W.heap.size) [.int .i64 f0, .bool f1, .slice A2 n2 c2, .int .i64 f3, .slice A4 n4 c4, .int .i64 f5, .slice A6 n6 c6] w22) := Lib.hid (Ba.out.below hb)
      replace Bw : Hid (Box (w3.heap.size) [.int .i64 f0, .bool f1, .slice wA2 m2 wc2, .int .i64 g3, .slice wA4 m4 wc4, .int .i64 f5, .slice wA6 n6 wc6] w22) := Lib.hid (Bw.out.below hb)
      replace Bx : Hid (Box (w4.heap.size) [.int .i64 f0, .bool f1, .slice xA2 n2 xc2, .int .i64 f3, .slice xA4 n4 xc4, .int .i64 f5, .slice xA6 n6 xc6] w22) := Lib.hid (Bx.out.below hb)
      replace Bg : Hid (Box (w5.heap.size) [.int .i64 f0, .bool f1, .slice gA2 m2 gc2, .int .i64 g3, .slice gA4 m4 gc4, .int .i64 f5, .slice gA6 n6 gc6] w22) := Lib.hid (Bg.out.below hb)
      replace HT : Hid (Below W.heap.size W w22) := Lib.hid (HT.out.trans (hb.mono HT.out.size))
      have hsw22 : w21.heap.size ≤ w22.heap.size := (by have h1 := hb.size; (try simp only [World.size_alloc] at h1); exact h1)
      have Hh : Hid (Own3 (w21.heap.size) (w22.heap.size) w22 M2 hA2 m2 hc2 M4 hA4 m4 hc4 L6 hA6 n6 hc6) := Lib.hid (by have h1 := hO.own; (try simp only [World.size_alloc] at h1); exact h1)
      clear hO hb
      clear Hv
      have hb : Below w22.heap.size w22 (w22.alloc (.cells #[.int .i64 f0, .bool f1, .slice hA2 m2 hc2, .int .i64 g3, .slice hA4 m4 hc4, .int .i64 f5, .slice hA6 n6 hc6] 27)) := (Below.refl _ _).alloc (Nat.le_refl _) _
      replace Hw : Hid (Own3 (w2.heap.size) (w3.heap.size) (w22.alloc (.cells #[.int .i64 f0, .bool f1, .slice hA2 m2 hc2, .int .i64 g3, .slice hA4 m4 hc4, .int .i64 f5, .slice hA6 n6 hc6] 27)) M2 wA2 m2 wc2 M4 wA4 m4 wc4 L6 wA6 n6 wc6) := Lib.hid (Hw.out.below hb)
      replace Hg : Hid (Own3 (w4.heap.size + 1) (w5.heap.size) (w22.alloc (.cells #[.int .i64 f0, .bool f1, .slice hA2 m2 hc2, .int .i64 g3, .slice hA4 m4 hc4, .int .i64 f5, .slice hA6 n6 hc6] 27)) (mkAll M2 1) gA2 m2 gc2 (mkAll M4 (1 + cntAll M2)) gA4 m4 gc4 (mkAll L6 (1 + cntAll M2 + cntAll M4)) gA6 n6 gc6) := Lib.hid (Hg.out.below hb)
      replace Hh : Hid (Own3 (w21.heap.size) (w22.heap.size) (w22.alloc (.cells #[.int .i64 f0, .bool f1, .slice hA2 m2 hc2, .int .i64 g3, .slice hA4 m4 hc4, .int .i64 f5, .slice hA6 n6 hc6] 27)) M2 hA2 m2 hc2 M4 hA4 m4 hc4 L6 hA6 n6 hc6) := Lib.hid (Hh.out.below hb)
      replace Ba : Hid (Box (W.heap.size) [.int .i64 f0, .bool f1, .slice A2 n2 c2, .int .i64 f3, .slice A4 n4 c4, .int .i64 f5, .slice A6 n6 c6] (w22.alloc (.cells #[.int .i64 f0, .bool f1, .slice hA2 m2 hc2, .int .i64 g3, .slice hA4 m4 hc4, .int .i64 f5, .slice hA6 n6 hc6] 27))) := Lib.hid (Ba.out.below hb)
      replace Bw : Hid (Box (w3.heap.size) [.int .i64 f0, .bool f1, .slice wA2 m2 wc2, .int .i64 g3, .slice wA4 m4 wc4, .int .i64 f5, .slice wA6 n6 wc6] (w22.alloc (.cells #[.int .i64 f0, .bool f1, .slice hA2 m2 hc2, .int .i64 g3, .slice hA4 m4 hc4, .int .i64 f5, .slice hA6 n6 hc6] 27))) := Lib.hid (Bw.out.below hb)
      replace Bx : Hid (Box (w4.heap.size) [.int .i64 f0, .bool f1, .slice xA2 n2 xc2, .int .i64 f3, .slice xA4 n4 xc4, .int .i64 f5, .slice xA6 n6 xc6] (w22.alloc (.cells #[.int .i64 f0, .bool f1, .slice hA2 m2 hc2, .int .i64 g3, .slice hA4 m4 hc4, .int .i64 f5, .slice hA6 n6 hc6] 27))) := Lib.hid (Bx.out.below hb)
      replace Bg : Hid (Box (w5.heap.size) [.int .i64 f0, .bool f1, .slice gA2 m2 gc2, .int .i64 g3, .slice gA4 m4 gc4, .int .i64 f5, .slice gA6 n6 gc6] (w22.alloc (.cells #[.int .i64 f0, .bool f1, .slice hA2 m2 hc2, .int .i64 g3, .slice hA4 m4 hc4, .int .i64 f5, .slice hA6 n6 hc6] 27))) := Lib.hid (Bg.out.below hb)
      replace HT : Hid (Below W.heap.size W (w22.alloc (.cells #[.int .i64 f0, .bool f1, .slice hA2 m2 hc2, .int .i64 g3, .slice hA4 m4 hc4, .int .i64 f5, .slice hA6 n6 hc6] 27))) := Lib.hid (HT.out.trans (hb.mono HT.out.size))
      clear hb
      have Bh : Hid (Box (w22.heap.size) [.int .i64 f0, .bool f1, .slice hA2 m2 hc2, .int .i64 g3, .slice hA4 m4 hc4, .int .i64 f5, .slice hA6 n6 hc6] (w22.alloc (.cells #[.int .i64 f0, .bool f1, .slice hA2 m2 hc2, .int .i64 g3, .slice hA4 m4 hc4, .int .i64 f5, .slice hA6 n6 hc6] 27))) := Lib.hid (by have h1 := Box.new w22 #[.int .i64 f0, .bool f1, .slice hA2 m2 hc2, .int .i64 g3, .slice hA4 m4 hc4, .int .i64 f5, .slice hA6 n6 hc6] 27; (try simp only [World.size_alloc] at h1); exact h1)
      obtain ⟨zh0, zh1, zh2, zh3, zh4, zh5, zh6⟩ := Bh.out.c7
      obtain ⟨zw0, zw1, zw2, zw3, zw4, zw5, zw6⟩ := Bw.out.c7
      go_wp2_with fail
      refine (eqLink f0 f1 M2 hA2 m2 hc2 g3 M4 hA4 m4 hc4 f5 L6 hA6 n6 hc6 wA2 wc2 wA4 wc4 wA6 wc6 _ Hh.out.l2 Hw.out.l2 htM2 hmM2 Hh.out.l4 Hw.out.l4 htM4 hmM4 Hh.out.l6 Hw.out.l6 ht6 hm6).mono ?_
      rintro e w23 ⟨rfl, hb⟩
      clear zh0 zh1 zh2 zh3 zh4 zh5 zh6
      clear zw0 zw1 zw2 zw3 zw4 zw5 zw6
      replace Hw : Hid (Own3 (w2.heap.size) (w3.heap.size) w23 M2 wA2 m2 wc2 M4 wA4 m4 wc4 L6 wA6 n6 wc6) := Lib.hid (Hw.out.below hb)
      replace Hg : Hid (Own3 (w4.heap.size + 1) (w5.heap.size) w23 (mkAll M2 1) gA2 m2 gc2 (mkAll M4 (1 + cntAll M2)) gA4 m4 gc4 (mkAll L6 (1 + cntAll M2 + cntAll M4)) gA6 n6 gc6) := Lib.hid (Hg.out.below hb)
      replace Hh : Hid (Own3 (w21.heap.size) (w22.heap.size) w23 M2 hA2 m2 hc2 M4 hA4 m4 hc4 L6 hA6 n6 hc6) := Lib.hid (Hh.out.below hb)
      replace Ba : Hid (Box (W.heap.size) [.int .i64 f0, .bool f1, .slice A2 n2 c2, .int .i64 f3, .slice A4 n4 c4, .int .i64 f5, .slice A6 n6 c6] w23) := Lib.hid (Ba.out.below hb)
      replace Bw : Hid (Box (w3.heap.size) [.int .i64 f0, .bool f1, .slice wA2 m2 wc2, .int .i64 g3, .slice wA4 m4 wc4, .int .i64 f5, .slice wA6 n6 wc6] w23) := Lib.hid (Bw.out.below hb)
      replace Bx : Hid (Box (w4.heap.size) [.int .i64 f0, .bool f1, .slice xA2 n2 xc2, .int .i64 f3, .slice xA4 n4 xc4, .int .i64 f5, .slice xA6 n6 xc6] w23) := Lib.hid (Bx.out.below hb)
      replace Bg : Hid (Box (w5.heap.size) [.int .i64 f0, .bool f1, .slice gA2 m2 gc2, .int .i64 g3, .slice gA4 m4 gc4, .int .i64 f5, .slice gA6 n6 gc6] w23) := Lib.hid (Bg.out.below hb)
      replace Bh : Hid (Box (w22.heap.size) [.int .i64 f0, .bool f1, .slice hA2 m2 hc2, .int .i64 g3, .slice hA4 m4 hc4, .int .i64 f5, .slice hA6 n6 hc6] w23) := Lib.hid (Bh.out.below hb)
      replace HT : Hid (Below W.heap.size W w23) := Lib.hid (HT.out.trans (hb.mono HT.out.size))
      have hsw23 : w22.heap.size + 1 ≤ w23.heap.size := (by have h1 := hb.size; (try simp only [World.size_alloc] at h1); exact h1)
      clear hb
      obtain ⟨zg0, zg1, zg2, zg3, zg4, zg5, zg6⟩ := Bg.out.c7
      go_wp2_with fail
      refine (heldLink f0 f1 M2 gA2 m2 gc2 g3 M4 gA4 m4 gc4 f5 L6 gA6 n6 gc6 1 _ Hg.out.l2 Hg.out.l4 Hg.out.l6 htM2 htM4 ht6 (by omega) (by omega) hNM2 hNM4 hN6).mono ?_
      rintro e w24 ⟨rfl, hb⟩
      clear zg0 zg1 zg2 zg3 zg4 zg5 zg6
      replace Hw : Hid (Own3 (w2.heap.size) (w3.heap.size) w24 M2 wA2 m2 wc2 M4 wA4 m4 wc4 L6 wA6 n6 wc6) := Lib.hid (Hw.out.below hb)
      replace Hg : Hid (Own3 (w4.heap.size + 1) (w5.heap.size) w24 (mkAll M2 1) gA2 m2 gc2 (mkAll M4 (1 + cntAll M2)) gA4 m4 gc4 (mkAll L6 (1 + cntAll M2 + cntAll M4)) gA6 n6 gc6) := Lib.hid (Hg.out.below hb)
      replace Hh : Hid (Own3 (w21.heap.size) (w22.heap.size) w24 M2 hA2 m2 hc2 M4 hA4 m4 hc4 L6 hA6 n6 hc6) := Lib.hid (Hh.out.below hb)
      replace Ba : Hid (Box (W.heap.size) [.int .i64 f0, .bool f1, .slice A2 n2 c2, .int .i64 f3, .slice A4 n4 c4, .int .i64 f5, .slice A6 n6 c6] w24) := Lib.hid (Ba.out.below hb)
      replace Bw : Hid (Box (w3.heap.size) [.int .i64 f0, .bool f1, .slice wA2 m2 wc2, .int .i64 g3, .slice wA4 m4 wc4, .int .i64 f5, .slice wA6 n6 wc6] w24) := Lib.hid (Bw.out.below hb)
      replace Bx : Hid (Box (w4.heap.size) [.int .i64 f0, .bool f1, .slice xA2 n2 xc2, .int .i64 f3, .slice xA4 n4 xc4, .int .i64 f5, .slice xA6 n6 xc6] w24) := Lib.hid (Bx.out.below hb)
      replace Bg : Hid (Box (w5.heap.size) [.int .i64 f0, .bool f1, .slice gA2 m2 gc2, .int .i64 g3, .slice gA4 m4 gc4, .int .i64 f5, .slice gA6 n6 gc6] w24) := Lib.hid (Bg.out.below hb)
      replace Bh : Hid (Box (w22.heap.size) [.int .i64 f0, .bool f1, .slice hA2 m2 hc2, .int .i64 g3, .slice hA4 m4 hc4, .int .i64 f5, .slice hA6 n6 hc6] w24) := Lib.hid (Bh.out.below hb)
      replace HT : Hid (Below W.heap.size W w24) := Lib.hid (HT.out.trans (hb.mono HT.out.size))
      have hsw24 : w23.heap.size ≤ w24.heap.size := (by have h1 := hb.size; (try simp only [World.size_alloc] at h1); exact h1)
      clear hb
      go_wp2_with fail
      go_ret
      exact GivesBool.ret HT.out)
end Go.Proofs.Ytdedioghljkflaa
