/- Exact laws of chapter 11: DecodeMessage. -/
import Derived.Test.YtchofnligbgigaaDecF
import Derived.Test.YtchofnligbgigaaLawM0
import Derived.Test.YtchofnligbgigaaDecI
import Derived.Test.YtchofnligbgigaaDecR
import Derived.Test.YtchofnligbgigaaMarkM
import Derived.Test.YtchofnligbgigaaTyM2
import Derived.Test.YtchofnligbgigaaTyM4
import Derived.Test.YtchofnligbgigaaTyM5
import Derived.Deep.RegionHeld3
import Derived.LoopTactic
import Derived.Lib.Hide
import Derived.Deep.QuietTactic
import Derived.BigQuiet
import Derived.Deep.RegionWith
import Derived.Handy
namespace Go.Proofs.Ytchofnligbgigaa
open Go.RowKit
set_option linter.unusedVariables false
set_option linter.unusedSimpArgs false
set_option maxRecDepth 100000 in
set_option maxHeartbeats 16000000 in
theorem law_DecodeMessage (A : Option Addr) (n c : Nat) (W : World) (hC : Code W A n) :
    Calls Try.prog 8 #[.slice A n c] W (GivesBool true W) := by
  obtain ⟨zs, hzs, hby⟩ := hC.rz
  have HZ := Lib.hid hzs
  have HLN := Lib.hid hzs.1
  have HBY := Lib.hid hby
  clear hC hzs
  have HT : Hid (Below W.heap.size W W) := Lib.hid (Below.refl _ _)
  by_cases hn : n ≤ 1048576
  · skip
    have hn1 : (n : Int) ≤ 1048576 := by omega
    have hn2 : ¬ (1048576 : Int) < (n : Int) := by omega
    have HZL : Hid (zs.length ≤ 1048577) := Lib.hid (by have h1 := HLN.out; omega)
    obtain ⟨htw, hlw⟩ := decM_wires hby
    have CSP : Hid (∀ (A : Option Addr) (n c : Nat) (w : World), Rz .u8 w A n zs → n ≤ c → n ≤ 549755813888 → Calls Try.prog 32 #[.slice A n c] w (GivesDM (decM zs) w)) := Lib.hid (fun A n c w h hc hn => specDecM A n c zs w h hc HBY.out hn)
    have CIM : Hid (∀ (A : Option Addr) (n c : Nat) (w : World), Rz .u8 w A n zs → n ≤ c → n ≤ 549755813888 → Calls Try.prog 13 #[.slice A n c] w (GivesDM (decM zs) w)) := Lib.hid (fun A n c w h hc hn => implDecM A n c zs w h hc HBY.out hn)
    unfold GivesDM at CSP CIM
    obtain ⟨L, hL⟩ : ∃ L, wiresL ((fstD (decM zs)).drop 11) = L := ⟨_, rfl⟩
    rw [hL] at CSP CIM htw hlw
    clear hL
    obtain ⟨J, hJ⟩ : ∃ J, L.length = J := ⟨_, rfl⟩
    rw [hJ] at CSP CIM hlw
    obtain ⟨s, hs⟩ : ∃ s, bytesOf (sndD (decM zs)) = s := ⟨_, rfl⟩
    rw [hs] at CSP CIM
    clear hs
    obtain ⟨b, hb⟩ : ∃ b, (decM zs).isSome = b := ⟨_, rfl⟩
    rw [hb] at CSP CIM
    clear hb
    obtain ⟨a0, ha⟩ : ∃ a, at0 (fstD (decM zs)) 0 = a := ⟨_, rfl⟩
    rw [ha] at CSP CIM
    clear ha
    obtain ⟨a1, ha⟩ : ∃ a, at0 (fstD (decM zs)) 1 = a := ⟨_, rfl⟩
    rw [ha] at CSP CIM
    clear ha
    obtain ⟨a2, ha⟩ : ∃ a, at0 (fstD (decM zs)) 2 = a := ⟨_, rfl⟩
    rw [ha] at CSP CIM
    clear ha
    obtain ⟨a3, ha⟩ : ∃ a, at0 (fstD (decM zs)) 3 = a := ⟨_, rfl⟩
    rw [ha] at CSP CIM
    clear ha
    obtain ⟨a4, ha⟩ : ∃ a, at0 (fstD (decM zs)) 4 = a := ⟨_, rfl⟩
    rw [ha] at CSP CIM
    clear ha
    obtain ⟨a5, ha⟩ : ∃ a, at0 (fstD (decM zs)) 5 = a := ⟨_, rfl⟩
    rw [ha] at CSP CIM
    clear ha
    obtain ⟨a6, ha⟩ : ∃ a, at0 (fstD (decM zs)) 6 = a := ⟨_, rfl⟩
    rw [ha] at CSP CIM
    clear ha
    obtain ⟨a7, ha⟩ : ∃ a, at0 (fstD (decM zs)) 7 = a := ⟨_, rfl⟩
    rw [ha] at CSP CIM
    clear ha
    obtain ⟨a8, ha⟩ : ∃ a, at0 (fstD (decM zs)) 8 = a := ⟨_, rfl⟩
    rw [ha] at CSP CIM
    clear ha
    obtain ⟨a9, ha⟩ : ∃ a, at0 (fstD (decM zs)) 9 = a := ⟨_, rfl⟩
    rw [ha] at CSP CIM
    clear ha
    have hkL : (cntAll L : Int) ≤ 4194304 := by have h3 := noneWire htw; have h1 := cnt_few (K := 2) (B := 2) (t := tyWire) (by decide) htw (by simp only [Dat.bulk]; omega); omega
    have htL := htw
    have hmJ : J ≤ 9223372036854775807 := by omega
    have hnJ : J ≤ 1099511627776 := by omega
    clear hJ htw hby
    have hbb : (b != b) = false := by cases b <;> rfl
    go_enter Try.func8, Try.ntmps8
    go_wp2_with fail
    refine (toB A n c zs _ (HZ.out.below HT.out) (by omega)).mono ?_
    rintro e w1 ⟨tA, tn, tc, rfl, hO, hb⟩
    replace HT : Hid (Below W.heap.size W w1) := Lib.hid (HT.out.trans (hb.mono HT.out.size))
    have hsw1 : W.heap.size ≤ w1.heap.size := (by have h1 := hb.size; (try simp only [World.size_alloc] at h1); exact h1)
    have Yt : Hid (Own .u8 5 (W.heap.size) (w1.heap.size) w1 tA tn tc zs) := Lib.hid (by have h1 := hO; (try simp only [World.size_alloc] at h1); exact h1)
    have hlt : tn ≤ 1048577 := by have h1 := Yt.out.1; have h2 := HZL.out; omega
    clear hO hb
    go_wp2_with fail
    refine (CSP.out tA tn tc _ Yt.out.rz Yt.out.cap.1 (by omega)).mono ?_
    rintro e w2 ⟨wA, wc, rfl, hO, hb⟩
    replace Yt : Hid (Own .u8 5 (W.heap.size) (w1.heap.size) w2 tA tn tc zs) := Lib.hid (Yt.out.below hb)
    replace HT : Hid (Below W.heap.size W w2) := Lib.hid (HT.out.trans (hb.mono HT.out.size))
    have hsw2 : w1.heap.size ≤ w2.heap.size := (by have h1 := hb.size; (try simp only [World.size_alloc] at h1); exact h1)
    have Hw : Hid (Owns w2 (.l L) [.slice wA J wc] (rng (w1.heap.size) (w2.heap.size))) := Lib.hid (by have h1 := hO; (try simp only [World.size_alloc] at h1); exact h1)
    clear hO hb
    have hb : Below w2.heap.size w2 (w2.alloc (.cells #[.int .i64 a0, .int .i64 a1, .int .i64 a2, .int .i64 a3, .string s, .slice wA J wc, .int .i64 a8, .int .i64 a9, .int .i64 a4, .int .i64 a5, .int .i64 a6, .int .i64 a7] 30)) := (Below.refl _ _).alloc (Nat.le_refl _) _
    replace Hw : Hid (Owns (w2.alloc (.cells #[.int .i64 a0, .int .i64 a1, .int .i64 a2, .int .i64 a3, .string s, .slice wA J wc, .int .i64 a8, .int .i64 a9, .int .i64 a4, .int .i64 a5, .int .i64 a6, .int .i64 a7] 30)) (.l L) [.slice wA J wc] (rng (w1.heap.size) (w2.heap.size))) := Lib.hid (Hw.out.below hb)
    replace Yt : Hid (Own .u8 5 (W.heap.size) (w1.heap.size) (w2.alloc (.cells #[.int .i64 a0, .int .i64 a1, .int .i64 a2, .int .i64 a3, .string s, .slice wA J wc, .int .i64 a8, .int .i64 a9, .int .i64 a4, .int .i64 a5, .int .i64 a6, .int .i64 a7] 30)) tA tn tc zs) := Lib.hid (Yt.out.below hb)
    replace HT : Hid (Below W.heap.size W (w2.alloc (.cells #[.int .i64 a0, .int .i64 a1, .int .i64 a2, .int .i64 a3, .string s, .slice wA J wc, .int .i64 a8, .int .i64 a9, .int .i64 a4, .int .i64 a5, .int .i64 a6, .int .i64 a7] 30))) := Lib.hid (HT.out.trans (hb.mono HT.out.size))
    clear hb
    have Bw : Hid (Box (w2.heap.size) [.int .i64 a0, .int .i64 a1, .int .i64 a2, .int .i64 a3, .string s, .slice wA J wc, .int .i64 a8, .int .i64 a9, .int .i64 a4, .int .i64 a5, .int .i64 a6, .int .i64 a7] (w2.alloc (.cells #[.int .i64 a0, .int .i64 a1, .int .i64 a2, .int .i64 a3, .string s, .slice wA J wc, .int .i64 a8, .int .i64 a9, .int .i64 a4, .int .i64 a5, .int .i64 a6, .int .i64 a7] 30))) := Lib.hid (by have h1 := Box.new w2 #[.int .i64 a0, .int .i64 a1, .int .i64 a2, .int .i64 a3, .string s, .slice wA J wc, .int .i64 a8, .int .i64 a9, .int .i64 a4, .int .i64 a5, .int .i64 a6, .int .i64 a7] 30; (try simp only [World.size_alloc] at h1); exact h1)
    clear Yt
    go_wp2_with fail
    refine (toB A n c zs _ (HZ.out.below HT.out) (by omega)).mono ?_
    rintro e w3 ⟨xA, xn, xc, rfl, hO, hb⟩
    replace Hw : Hid (Owns w3 (.l L) [.slice wA J wc] (rng (w1.heap.size) (w2.heap.size))) := Lib.hid (Hw.out.below hb)
    replace Bw : Hid (Box (w2.heap.size) [.int .i64 a0, .int .i64 a1, .int .i64 a2, .int .i64 a3, .string s, .slice wA J wc, .int .i64 a8, .int .i64 a9, .int .i64 a4, .int .i64 a5, .int .i64 a6, .int .i64 a7] w3) := Lib.hid (Bw.out.below hb)
    replace HT : Hid (Below W.heap.size W w3) := Lib.hid (HT.out.trans (hb.mono HT.out.size))
    have hsw3 : w2.heap.size + 1 ≤ w3.heap.size := (by have h1 := hb.size; (try simp only [World.size_alloc] at h1); exact h1)
    have Yx : Hid (Own .u8 5 (w2.heap.size + 1) (w3.heap.size) w3 xA xn xc zs) := Lib.hid (by have h1 := hO; (try simp only [World.size_alloc] at h1); exact h1)
    have hlx : xn ≤ 1048577 := by have h1 := Yx.out.1; have h2 := HZL.out; omega
    clear hO hb
    go_wp2_with fail
    refine (CIM.out xA xn xc _ Yx.out.rz Yx.out.cap.1 (by omega)).mono ?_
    rintro e w4 ⟨gA, gc, rfl, hO, hb⟩
    replace Hw : Hid (Owns w4 (.l L) [.slice wA J wc] (rng (w1.heap.size) (w2.heap.size))) := Lib.hid (Hw.out.below hb)
    replace Yx : Hid (Own .u8 5 (w2.heap.size + 1) (w3.heap.size) w4 xA xn xc zs) := Lib.hid (Yx.out.below hb)
    replace Bw : Hid (Box (w2.heap.size) [.int .i64 a0, .int .i64 a1, .int .i64 a2, .int .i64 a3, .string s, .slice wA J wc, .int .i64 a8, .int .i64 a9, .int .i64 a4, .int .i64 a5, .int .i64 a6, .int .i64 a7] w4) := Lib.hid (Bw.out.below hb)
    replace HT : Hid (Below W.heap.size W w4) := Lib.hid (HT.out.trans (hb.mono HT.out.size))
    have hsw4 : w3.heap.size ≤ w4.heap.size := (by have h1 := hb.size; (try simp only [World.size_alloc] at h1); exact h1)
    have Hg : Hid (Owns w4 (.l L) [.slice gA J gc] (rng (w3.heap.size) (w4.heap.size))) := Lib.hid (by have h1 := hO; (try simp only [World.size_alloc] at h1); exact h1)
    clear hO hb
    have hb : Below w4.heap.size w4 (w4.alloc (.cells #[.int .i64 a0, .int .i64 a1, .int .i64 a2, .int .i64 a3, .string s, .slice gA J gc, .int .i64 a8, .int .i64 a9, .int .i64 a4, .int .i64 a5, .int .i64 a6, .int .i64 a7] 30)) := (Below.refl _ _).alloc (Nat.le_refl _) _
    replace Hw : Hid (Owns (w4.alloc (.cells #[.int .i64 a0, .int .i64 a1, .int .i64 a2, .int .i64 a3, .string s, .slice gA J gc, .int .i64 a8, .int .i64 a9, .int .i64 a4, .int .i64 a5, .int .i64 a6, .int .i64 a7] 30)) (.l L) [.slice wA J wc] (rng (w1.heap.size) (w2.heap.size))) := Lib.hid (Hw.out.below hb)
    replace Hg : Hid (Owns (w4.alloc (.cells #[.int .i64 a0, .int .i64 a1, .int .i64 a2, .int .i64 a3, .string s, .slice gA J gc, .int .i64 a8, .int .i64 a9, .int .i64 a4, .int .i64 a5, .int .i64 a6, .int .i64 a7] 30)) (.l L) [.slice gA J gc] (rng (w3.heap.size) (w4.heap.size))) := Lib.hid (Hg.out.below hb)
    replace Yx : Hid (Own .u8 5 (w2.heap.size + 1) (w3.heap.size) (w4.alloc (.cells #[.int .i64 a0, .int .i64 a1, .int .i64 a2, .int .i64 a3, .string s, .slice gA J gc, .int .i64 a8, .int .i64 a9, .int .i64 a4, .int .i64 a5, .int .i64 a6, .int .i64 a7] 30)) xA xn xc zs) := Lib.hid (Yx.out.below hb)
    replace Bw : Hid (Box (w2.heap.size) [.int .i64 a0, .int .i64 a1, .int .i64 a2, .int .i64 a3, .string s, .slice wA J wc, .int .i64 a8, .int .i64 a9, .int .i64 a4, .int .i64 a5, .int .i64 a6, .int .i64 a7] (w4.alloc (.cells #[.int .i64 a0, .int .i64 a1, .int .i64 a2, .int .i64 a3, .string s, .slice gA J gc, .int .i64 a8, .int .i64 a9, .int .i64 a4, .int .i64 a5, .int .i64 a6, .int .i64 a7] 30))) := Lib.hid (Bw.out.below hb)
    replace HT : Hid (Below W.heap.size W (w4.alloc (.cells #[.int .i64 a0, .int .i64 a1, .int .i64 a2, .int .i64 a3, .string s, .slice gA J gc, .int .i64 a8, .int .i64 a9, .int .i64 a4, .int .i64 a5, .int .i64 a6, .int .i64 a7] 30))) := Lib.hid (HT.out.trans (hb.mono HT.out.size))
    clear hb
    have Bg : Hid (Box (w4.heap.size) [.int .i64 a0, .int .i64 a1, .int .i64 a2, .int .i64 a3, .string s, .slice gA J gc, .int .i64 a8, .int .i64 a9, .int .i64 a4, .int .i64 a5, .int .i64 a6, .int .i64 a7] (w4.alloc (.cells #[.int .i64 a0, .int .i64 a1, .int .i64 a2, .int .i64 a3, .string s, .slice gA J gc, .int .i64 a8, .int .i64 a9, .int .i64 a4, .int .i64 a5, .int .i64 a6, .int .i64 a7] 30))) := Lib.hid (by have h1 := Box.new w4 #[.int .i64 a0, .int .i64 a1, .int .i64 a2, .int .i64 a3, .string s, .slice gA J gc, .int .i64 a8, .int .i64 a9, .int .i64 a4, .int .i64 a5, .int .i64 a6, .int .i64 a7] 30; (try simp only [World.size_alloc] at h1); exact h1)
    obtain ⟨zg0, zg1, zg2, zg3, zg4, zg5, zg6, zg7, zg8, zg9, zg10, zg11⟩ := Bg.out.c12
    obtain ⟨zw0, zw1, zw2, zw3, zw4, zw5, zw6, zw7, zw8, zw9, zw10, zw11⟩ := Bw.out.c12
    go_wp2_with fail
    refine (eqMessage a0 a1 a2 a3 s L gA J gc a8 a9 a4 a5 a6 a7 wA wc _ Hg.out.lies Hw.out.lies htL hmJ).mono ?_
    rintro e w5 ⟨rfl, hb⟩
    clear zg0 zg1 zg2 zg3 zg4 zg5 zg6 zg7 zg8 zg9 zg10 zg11
    clear zw0 zw1 zw2 zw3 zw4 zw5 zw6 zw7 zw8 zw9 zw10 zw11
    replace Hw : Hid (Owns w5 (.l L) [.slice wA J wc] (rng (w1.heap.size) (w2.heap.size))) := Lib.hid (Hw.out.below hb)
    replace Hg : Hid (Owns w5 (.l L) [.slice gA J gc] (rng (w3.heap.size) (w4.heap.size))) := Lib.hid (Hg.out.below hb)
    replace Yx : Hid (Own .u8 5 (w2.heap.size + 1) (w3.heap.size) w5 xA xn xc zs) := Lib.hid (Yx.out.below hb)
    replace Bw : Hid (Box (w2.heap.size) [.int .i64 a0, .int .i64 a1, .int .i64 a2, .int .i64 a3, .string s, .slice wA J wc, .int .i64 a8, .int .i64 a9, .int .i64 a4, .int .i64 a5, .int .i64 a6, .int .i64 a7] w5) := Lib.hid (Bw.out.below hb)
    replace Bg : Hid (Box (w4.heap.size) [.int .i64 a0, .int .i64 a1, .int .i64 a2, .int .i64 a3, .string s, .slice gA J gc, .int .i64 a8, .int .i64 a9, .int .i64 a4, .int .i64 a5, .int .i64 a6, .int .i64 a7] w5) := Lib.hid (Bg.out.below hb)
    replace HT : Hid (Below W.heap.size W w5) := Lib.hid (HT.out.trans (hb.mono HT.out.size))
    have hsw5 : w4.heap.size + 1 ≤ w5.heap.size := (by have h1 := hb.size; (try simp only [World.size_alloc] at h1); exact h1)
    clear hb
    go_wp2_with fail
    refine (toB A n c zs _ (HZ.out.below HT.out) (by omega)).mono ?_
    rintro e w6 ⟨uA, un, uc, rfl, hO, hb⟩
    replace Hw : Hid (Owns w6 (.l L) [.slice wA J wc] (rng (w1.heap.size) (w2.heap.size))) := Lib.hid (Hw.out.below hb)
    replace Hg : Hid (Owns w6 (.l L) [.slice gA J gc] (rng (w3.heap.size) (w4.heap.size))) := Lib.hid (Hg.out.below hb)
    replace Yx : Hid (Own .u8 5 (w2.heap.size + 1) (w3.heap.size) w6 xA xn xc zs) := Lib.hid (Yx.out.below hb)
    replace Bw : Hid (Box (w2.heap.size) [.int .i64 a0, .int .i64 a1, .int .i64 a2, .int .i64 a3, .string s, .slice wA J wc, .int .i64 a8, .int .i64 a9, .int .i64 a4, .int .i64 a5, .int .i64 a6, .int .i64 a7] w6) := Lib.hid (Bw.out.below hb)
    replace Bg : Hid (Box (w4.heap.size) [.int .i64 a0, .int .i64 a1, .int .i64 a2, .int .i64 a3, .string s, .slice gA J gc, .int .i64 a8, .int .i64 a9, .int .i64 a4, .int .i64 a5, .int .i64 a6, .int .i64 a7] w6) := Lib.hid (Bg.out.below hb)
    replace HT : Hid (Below W.heap.size W w6) := Lib.hid (HT.out.trans (hb.mono HT.out.size))
    have hsw6 : w5.heap.size ≤ w6.heap.size := (by have h1 := hb.size; (try simp only [World.size_alloc] at h1); exact h1)
    have Yu : Hid (Own .u8 5 (w5.heap.size) (w6.heap.size) w6 uA un uc zs) := Lib.hid (by have h1 := hO; (try simp only [World.size_alloc] at h1); exact h1)
    have hlu : un ≤ 1048577 := by have h1 := Yu.out.1; have h2 := HZL.out; omega
    clear hO hb
    go_wp2_with fail
    refine (eqB xA uA xn un xc uc _ _ _ Yx.out.rz Yu.out.rz rfl (by omega)).mono ?_
    rintro e w7 ⟨rfl, hb⟩
    replace Hw : Hid (Owns w7 (.l L) [.slice wA J wc] (rng (w1.heap.size) (w2.heap.size))) := Lib.hid (Hw.out.below hb)
    replace Hg : Hid (Owns w7 (.l L) [.slice gA J gc] (rng (w3.heap.size) (w4.heap.size))) := Lib.hid (Hg.out.below hb)
    replace Yx : Hid (Own .u8 5 (w2.heap.size + 1) (w3.heap.size) w7 xA xn xc zs) := Lib.hid (Yx.out.below hb)
    replace Yu : Hid (Own .u8 5 (w5.heap.size) (w6.heap.size) w7 uA un uc zs) := Lib.hid (Yu.out.below hb)
    replace Bw : Hid (Box (w2.heap.size) [.int .i64 a0, .int .i64 a1, .int .i64 a2, .int .i64 a3, .string s, .slice wA J wc, .int .i64 a8, .int .i64 a9, .int .i64 a4, .int .i64 a5, .int .i64 a6, .int .i64 a7] w7) := Lib.hid (Bw.out.below hb)
    replace Bg : Hid (Box (w4.heap.size) [.int .i64 a0, .int .i64 a1, .int .i64 a2, .int .i64 a3, .string s, .slice gA J gc, .int .i64 a8, .int .i64 a9, .int .i64 a4, .int .i64 a5, .int .i64 a6, .int .i64 a7] w7) := Lib.hid (Bg.out.below hb)
    replace HT : Hid (Below W.heap.size W w7) := Lib.hid (HT.out.trans (hb.mono HT.out.size))
    have hsw7 : w6.heap.size ≤ w7.heap.size := (by have h1 := hb.size; (try simp only [World.size_alloc] at h1); exact h1)
    clear hb
    clear Yu
    go_wp2_with fail
    refine (markB (w2.heap.size + 1) (w3.heap.size) xA xn xc 1 zs _ Yx.out (by omega) (by omega) (by omega)).mono ?_
    rintro e w8 ⟨rfl, hO, hS⟩
    have hb := Touch.of_step hS
    clear hS
    replace Hw : Hid (Owns w8 (.l L) [.slice wA J wc] (rng (w1.heap.size) (w2.heap.size))) := Lib.hid (Hw.out.touch hb (rng_apart (by omega)))
    replace Hg : Hid (Owns w8 (.l L) [.slice gA J gc] (rng (w3.heap.size) (w4.heap.size))) := Lib.hid (Hg.out.touch hb (rng_apart (by omega)))
    replace Bw : Hid (Box (w2.heap.size) [.int .i64 a0, .int .i64 a1, .int .i64 a2, .int .i64 a3, .string s, .slice wA J wc, .int .i64 a8, .int .i64 a9, .int .i64 a4, .int .i64 a5, .int .i64 a6, .int .i64 a7] w8) := Lib.hid (Bw.out.touch hb (rng_out (by omega)))
    replace Bg : Hid (Box (w4.heap.size) [.int .i64 a0, .int .i64 a1, .int .i64 a2, .int .i64 a3, .string s, .slice gA J gc, .int .i64 a8, .int .i64 a9, .int .i64 a4, .int .i64 a5, .int .i64 a6, .int .i64 a7] w8) := Lib.hid (Bg.out.touch hb (rng_out (by omega)))
    replace HT : Hid (Below W.heap.size W w8) := Lib.hid (hb.low HT.out (by omega))
    have hsw8 : w7.heap.size ≤ w8.heap.size := hb.size
    replace Yx : Hid (Own .u8 5 (w2.heap.size + 1) (w3.heap.size) w8 xA xn xc (marksB 1 xn)) := Lib.hid hO
    clear hO hb
    have hka : (0 : Int) ≤ 1 + (xn : Int) := by omega
    have hkb : (decide ((1 : Int) + (xn : Int) < 0)) = false := by (simp; try omega)
    obtain ⟨zg0, zg1, zg2, zg3, zg4, zg5, zg6, zg7, zg8, zg9, zg10, zg11⟩ := Bg.out.c12
    obtain ⟨zw0, zw1, zw2, zw3, zw4, zw5, zw6, zw7, zw8, zw9, zw10, zw11⟩ := Bw.out.c12
    go_wp2_with fail
    refine (eqMessage a0 a1 a2 a3 s L gA J gc a8 a9 a4 a5 a6 a7 wA wc _ Hg.out.lies Hw.out.lies htL hmJ).mono ?_
    rintro e w9 ⟨rfl, hb⟩
    clear zg0 zg1 zg2 zg3 zg4 zg5 zg6 zg7 zg8 zg9 zg10 zg11
    clear zw0 zw1 zw2 zw3 zw4 zw5 zw6 zw7 zw8 zw9 zw10 zw11
    replace Hw : Hid (Owns w9 (.l L) [.slice wA J wc] (rng (w1.heap.size) (w2.heap.size))) := Lib.hid (Hw.out.below hb)
    replace Hg : Hid (Owns w9 (.l L) [.slice gA J gc] (rng (w3.heap.size) (w4.heap.size))) := Lib.hid (Hg.out.below hb)
    replace Yx : Hid (Own .u8 5 (w2.heap.size + 1) (w3.heap.size) w9 xA xn xc (marksB 1 xn)) := Lib.hid (Yx.out.below hb)
    replace Bw : Hid (Box (w2.heap.size) [.int .i64 a0, .int .i64 a1, .int .i64 a2, .int .i64 a3, .string s, .slice wA J wc, .int .i64 a8, .int .i64 a9, .int .i64 a4, .int .i64 a5, .int .i64 a6, .int .i64 a7] w9) := Lib.hid (Bw.out.below hb)
    replace Bg : Hid (Box (w4.heap.size) [.int .i64 a0, .int .i64 a1, .int .i64 a2, .int .i64 a3, .string s, .slice gA J gc, .int .i64 a8, .int .i64 a9, .int .i64 a4, .int .i64 a5, .int .i64 a6, .int .i64 a7] w9) := Lib.hid (Bg.out.below hb)
    replace HT : Hid (Below W.heap.size W w9) := Lib.hid (HT.out.trans (hb.mono HT.out.size))
    have hsw9 : w8.heap.size ≤ w9.heap.size := (by have h1 := hb.size; (try simp only [World.size_alloc] at h1); exact h1)
    clear hb
    clear Yx
    clear hka hkb
    obtain ⟨zg0, zg1, zg2, zg3, zg4, zg5, zg6, zg7, zg8, zg9, zg10, zg11⟩ := Bg.out.c12
    go_wp2_with fail
    refine (markMessage a0 a1 a2 a3 s L gA J gc a8 a9 a4 a5 a6 a7 1 (rng (w3.heap.size) (w4.heap.size)) _ Hg.out htL (by omega) (by omega) hnJ).mono ?_
    rintro e w10 ⟨rfl, hO, hb⟩
    clear zg0 zg1 zg2 zg3 zg4 zg5 zg6 zg7 zg8 zg9 zg10 zg11
    replace Hw : Hid (Owns w10 (.l L) [.slice wA J wc] (rng (w1.heap.size) (w2.heap.size))) := Lib.hid (Hw.out.touch hb (rng_apart (by omega)))
    replace Bw : Hid (Box (w2.heap.size) [.int .i64 a0, .int .i64 a1, .int .i64 a2, .int .i64 a3, .string s, .slice wA J wc, .int .i64 a8, .int .i64 a9, .int .i64 a4, .int .i64 a5, .int .i64 a6, .int .i64 a7] w10) := Lib.hid (Bw.out.touch hb (rng_out (by omega)))
    replace Bg : Hid (Box (w4.heap.size) [.int .i64 a0, .int .i64 a1, .int .i64 a2, .int .i64 a3, .string s, .slice gA J gc, .int .i64 a8, .int .i64 a9, .int .i64 a4, .int .i64 a5, .int .i64 a6, .int .i64 a7] w10) := Lib.hid (Bg.out.touch hb (rng_out (by omega)))
    replace HT : Hid (Below W.heap.size W w10) := Lib.hid (hb.low HT.out (by omega))
    have hsw10 : w9.heap.size ≤ w10.heap.size := hb.size
    replace Hg : Hid (Owns w10 (.l (mkAll L 1)) [.slice gA J gc] (rng (w3.heap.size) (w4.heap.size))) := Lib.hid hO
    clear hO hb
    have hka : (0 : Int) ≤ 1 + cntAll L := by omega
    have hkb : (decide ((1 : Int) + cntAll L < 0)) = false := by (simp; try omega)
    obtain ⟨zg0, zg1, zg2, zg3, zg4, zg5, zg6, zg7, zg8, zg9, zg10, zg11⟩ := Bg.out.c12
    go_wp2_with fail
    refine (heldMessage a0 a1 a2 a3 s L gA J gc a8 a9 a4 a5 a6 a7 1 _ Hg.out.lies htL (by omega) (by omega) hnJ).mono ?_
    rintro e w11 ⟨rfl, hb⟩
    clear zg0 zg1 zg2 zg3 zg4 zg5 zg6 zg7 zg8 zg9 zg10 zg11
    replace Hw : Hid (Owns w11 (.l L) [.slice wA J wc] (rng (w1.heap.size) (w2.heap.size))) := Lib.hid (Hw.out.below hb)
    replace Hg : Hid (Owns w11 (.l (mkAll L 1)) [.slice gA J gc] (rng (w3.heap.size) (w4.heap.size))) := Lib.hid (Hg.out.below hb)
    replace Bw : Hid (Box (w2.heap.size) [.int .i64 a0, .int .i64 a1, .int .i64 a2, .int .i64 a3, .string s, .slice wA J wc, .int .i64 a8, .int .i64 a9, .int .i64 a4, .int .i64 a5, .int .i64 a6, .int .i64 a7] w11) := Lib.hid (Bw.out.below hb)
    replace Bg : Hid (Box (w4.heap.size) [.int .i64 a0, .int .i64 a1, .int .i64 a2, .int .i64 a3, .string s, .slice gA J gc, .int .i64 a8, .int .i64 a9, .int .i64 a4, .int .i64 a5, .int .i64 a6, .int .i64 a7] w11) := Lib.hid (Bg.out.below hb)
    replace HT : Hid (Below W.heap.size W w11) := Lib.hid (HT.out.trans (hb.mono HT.out.size))
    have hsw11 : w10.heap.size ≤ w11.heap.size := (by have h1 := hb.size; (try simp only [World.size_alloc] at h1); exact h1)
    clear hb
    go_wp2_with fail
    refine (toB A n c zs _ (HZ.out.below HT.out) (by omega)).mono ?_
    rintro e w12 ⟨vA, vn, vc, rfl, hO, hb⟩
    replace Hw : Hid (Owns w12 (.l L) [.slice wA J wc] (rng (w1.heap.size) (w2.heap.size))) := Lib.hid (Hw.out.below hb)
    replace Hg : Hid (Owns w12 (.l (mkAll L 1)) [.slice gA J gc] (rng (w3.heap.size) (w4.heap.size))) := Lib.hid (Hg.out.below hb)
    replace Bw : Hid (Box (w2.heap.size) [.int .i64 a0, .int .i64 a1, .int .i64 a2, .int .i64 a3, .string s, .slice wA J wc, .int .i64 a8, .int .i64 a9, .int .i64 a4, .int .i64 a5, .int .i64 a6, .int .i64 a7] w12) := Lib.hid (Bw.out.below hb)
    replace Bg : Hid (Box (w4.heap.size) [.int .i64 a0, .int .i64 a1, .int .i64 a2, .int .i64 a3, .string s, .slice gA J gc, .int .i64 a8, .int .i64 a9, .int .i64 a4, .int .i64 a5, .int .i64 a6, .int .i64 a7] w12) := Lib.hid (Bg.out.below hb)
    replace HT : Hid (Below W.heap.size W w12) := Lib.hid (HT.out.trans (hb.mono HT.out.size))
    have hsw12 : w11.heap.size ≤ w12.heap.size := (by have h1 := hb.size; (try simp only [World.size_alloc] at h1); exact h1)
    have Yv : Hid (Own .u8 5 (w11.heap.size) (w12.heap.size) w12 vA vn vc zs) := Lib.hid (by have h1 := hO; (try simp only [World.size_alloc] at h1); exact h1)
    have hlv : vn ≤ 1048577 := by have h1 := Yv.out.1; have h2 := HZL.out; omega
    clear hO hb
    go_wp2_with fail
    refine (CIM.out vA vn vc _ Yv.out.rz Yv.out.cap.1 (by omega)).mono ?_
    rintro e w13 ⟨hA, hc, rfl, hO, hb⟩
    replace Hw : Hid (Owns w13 (.l L) [.slice wA J wc] (rng (w1.heap.size) (w2.heap.size))) := Lib.hid (Hw.out.below hb)
    replace Hg : Hid (Owns w13 (.l (mkAll L 1)) [.slice gA J gc] (rng (w3.heap.size) (w4.heap.size))) := Lib.hid (Hg.out.below hb)
    replace Yv : Hid (Own .u8 5 (w11.heap.size) (w12.heap.size) w13 vA vn vc zs) := Lib.hid (Yv.out.below hb)
    replace Bw : Hid (Box (w2.heap.size) [.int .i64 a0, .int .i64 a1, .int .i64 a2, .int .i64 a3, .string s, .slice wA J wc, .int .i64 a8, .int .i64 a9, .int .i64 a4, .int .i64 a5, .int .i64 a6, .int .i64 a7] w13) := Lib.hid (Bw.out.below hb)
    replace Bg : Hid (Box (w4.heap.size) [.int .i64 a0, .int .i64 a1, .int .i64 a2, .int .i64 a3, .string s, .slice gA J gc, .int .i64 a8, .int .i64 a9, .int .i64 a4, .int .i64 a5, .int .i64 a6, .int .i64 a7] w13) := Lib.hid (Bg.out.below hb)
    replace HT : Hid (Below W.heap.size W w13) := Lib.hid (HT.out.trans (hb.mono HT.out.size))
    have hsw13 : w12.heap.size ≤ w13.heap.size := (by have h1 := hb.size; (try simp only [World.size_alloc] at h1); exact h1)
    have Hh : Hid (Owns w13 (.l L) [.slice hA J hc] (rng (w12.heap.size) (w13.heap.size))) := Lib.hid (by have h1 := hO; (try simp only [World.size_alloc] at h1); exact h1)
    clear hO hb
    have hb : Below w13.heap.size w13 (w13.alloc (.cells #[.int .i64 a0, .int .i64 a1, .int .i64 a2, .int .i64 a3, .string s, .slice hA J hc, .int .i64 a8, .int .i64 a9, .int .i64 a4, .int .i64 a5, .int .i64 a6, .int .i64 a7] 30)) := (Below.refl _ _).alloc (Nat.le_refl _) _
    replace Hw : Hid (Owns (w13.alloc (.cells #[.int .i64 a0, .int .i64 a1, .int .i64 a2, .int .i64 a3, .string s, .slice hA J hc, .int .i64 a8, .int .i64 a9, .int .i64 a4, .int .i64 a5, .int .i64 a6, .int .i64 a7] 30)) (.l L) [.slice wA J wc] (rng (w1.heap.size) (w2.heap.size))) := Lib.hid (Hw.out.below hb)
    replace Hg : Hid (Owns (w13.alloc (.cells #[.int .i64 a0, .int .i64 a1, .int .i64 a2, .int .i64 a3, .string s, .slice hA J hc, .int .i64 a8, .int .i64 a9, .int .i64 a4, .int .i64 a5, .int .i64 a6, .int .i64 a7] 30)) (.l (mkAll L 1)) [.slice gA J gc] (rng (w3.heap.size) (w4.heap.size))) := Lib.hid (Hg.out.below hb)
    replace Hh : Hid (Owns (w13.alloc (.cells #[.int .i64 a0, .int .i64 a1, .int .i64 a2, .int .i64 a3, .string s, .slice hA J hc, .int .i64 a8, .int .i64 a9, .int .i64 a4, .int .i64 a5, .int .i64 a6, .int .i64 a7] 30)) (.l L) [.slice hA J hc] (rng (w12.heap.size) (w13.heap.size))) := Lib.hid (Hh.out.below hb)
    replace Yv : Hid (Own .u8 5 (w11.heap.size) (w12.heap.size) (w13.alloc (.cells #[.int .i64 a0, .int .i64 a1, .int .i64 a2, .int .i64 a3, .string s, .slice hA J hc, .int .i64 a8, .int .i64 a9, .int .i64 a4, .int .i64 a5, .int .i64 a6, .int .i64 a7] 30)) vA vn vc zs) := Lib.hid (Yv.out.below hb)
    replace Bw : Hid (Box (w2.heap.size) [.int .i64 a0, .int .i64 a1, .int .i64 a2, .int .i64 a3, .string s, .slice wA J wc, .int .i64 a8, .int .i64 a9, .int .i64 a4, .int .i64 a5, .int .i64 a6, .int .i64 a7] (w13.alloc (.cells #[.int .i64 a0, .int .i64 a1, .int .i64 a2, .int .i64 a3, .string s, .slice hA J hc, .int .i64 a8, .int .i64 a9, .int .i64 a4, .int .i64 a5, .int .i64 a6, .int .i64 a7] 30))) := Lib.hid (Bw.out.below hb)
    replace Bg : Hid (Box (w4.heap.size) [.int .i64 a0, .int .i64 a1, .int .i64 a2, .int .i64 a3, .string s, .slice gA J gc, .int .i64 a8, .int .i64 a9, .int .i64 a4, .int .i64 a5, .int .i64 a6, .int .i64 a7] (w13.alloc (.cells #[.int .i64 a0, .int .i64 a1, .int .i64 a2, .int .i64 a3, .string s, .slice hA J hc, .int .i64 a8, .int .i64 a9, .int .i64 a4, .int .i64 a5, .int .i64 a6, .int .i64 a7] 30))) := Lib.hid (Bg.out.below hb)
    replace HT : Hid (Below W.heap.size W (w13.alloc (.cells #[.int .i64 a0, .int .i64 a1, .int .i64 a2, .int .i64 a3, .string s, .slice hA J hc, .int .i64 a8, .int .i64 a9, .int .i64 a4, .int .i64 a5, .int .i64 a6, .int .i64 a7] 30))) := Lib.hid (HT.out.trans (hb.mono HT.out.size))
    clear hb
    have Bh : Hid (Box (w13.heap.size) [.int .i64 a0, .int .i64 a1, .int .i64 a2, .int .i64 a3, .string s, .slice hA J hc, .int .i64 a8, .int .i64 a9, .int .i64 a4, .int .i64 a5, .int .i64 a6, .int .i64 a7] (w13.alloc (.cells #[.int .i64 a0, .int .i64 a1, .int .i64 a2, .int .i64 a3, .string s, .slice hA J hc, .int .i64 a8, .int .i64 a9, .int .i64 a4, .int .i64 a5, .int .i64 a6, .int .i64 a7] 30))) := Lib.hid (by have h1 := Box.new w13 #[.int .i64 a0, .int .i64 a1, .int .i64 a2, .int .i64 a3, .string s, .slice hA J hc, .int .i64 a8, .int .i64 a9, .int .i64 a4, .int .i64 a5, .int .i64 a6, .int .i64 a7] 30; (try simp only [World.size_alloc] at h1); exact h1)
    clear Yv
    obtain ⟨zh0, zh1, zh2, zh3, zh4, zh5, zh6, zh7, zh8, zh9, zh10, zh11⟩ := Bh.out.c12
    obtain ⟨zw0, zw1, zw2, zw3, zw4, zw5, zw6, zw7, zw8, zw9, zw10, zw11⟩ := Bw.out.c12
    go_wp2_with fail
    refine (eqMessage a0 a1 a2 a3 s L hA J hc a8 a9 a4 a5 a6 a7 wA wc _ Hh.out.lies Hw.out.lies htL hmJ).mono ?_
    rintro e w14 ⟨rfl, hb⟩
    clear zh0 zh1 zh2 zh3 zh4 zh5 zh6 zh7 zh8 zh9 zh10 zh11
    clear zw0 zw1 zw2 zw3 zw4 zw5 zw6 zw7 zw8 zw9 zw10 zw11
    replace Hw : Hid (Owns w14 (.l L) [.slice wA J wc] (rng (w1.heap.size) (w2.heap.size))) := Lib.hid (Hw.out.below hb)
    replace Hg : Hid (Owns w14 (.l (mkAll L 1)) [.slice gA J gc] (rng (w3.heap.size) (w4.heap.size))) := Lib.hid (Hg.out.below hb)
    replace Hh : Hid (Owns w14 (.l L) [.slice hA J hc] (rng (w12.heap.size) (w13.heap.size))) := Lib.hid (Hh.out.below hb)
    replace Bw : Hid (Box (w2.heap.size) [.int .i64 a0, .int .i64 a1, .int .i64 a2, .int .i64 a3, .string s, .slice wA J wc, .int .i64 a8, .int .i64 a9, .int .i64 a4, .int .i64 a5, .int .i64 a6, .int .i64 a7] w14) := Lib.hid (Bw.out.below hb)
    replace Bg : Hid (Box (w4.heap.size) [.int .i64 a0, .int .i64 a1, .int .i64 a2, .int .i64 a3, .string s, .slice gA J gc, .int .i64 a8, .int .i64 a9, .int .i64 a4, .int .i64 a5, .int .i64 a6, .int .i64 a7] w14) := Lib.hid (Bg.out.below hb)
    replace Bh : Hid (Box (w13.heap.size) [.int .i64 a0, .int .i64 a1, .int .i64 a2, .int .i64 a3, .string s, .slice hA J hc, .int .i64 a8, .int .i64 a9, .int .i64 a4, .int .i64 a5, .int .i64 a6, .int .i64 a7] w14) := Lib.hid (Bh.out.below hb)
    replace HT : Hid (Below W.heap.size W w14) := Lib.hid (HT.out.trans (hb.mono HT.out.size))
    have hsw14 : w13.heap.size + 1 ≤ w14.heap.size := (by have h1 := hb.size; (try simp only [World.size_alloc] at h1); exact h1)
    clear hb
    obtain ⟨zg0, zg1, zg2, zg3, zg4, zg5, zg6, zg7, zg8, zg9, zg10, zg11⟩ := Bg.out.c12
    go_wp2_with fail
    refine (heldMessage a0 a1 a2 a3 s L gA J gc a8 a9 a4 a5 a6 a7 1 _ Hg.out.lies htL (by omega) (by omega) hnJ).mono ?_
    rintro e w15 ⟨rfl, hb⟩
    clear zg0 zg1 zg2 zg3 zg4 zg5 zg6 zg7 zg8 zg9 zg10 zg11
    replace Hw : Hid (Owns w15 (.l L) [.slice wA J wc] (rng (w1.heap.size) (w2.heap.size))) := Lib.hid (Hw.out.below hb)
    replace Hg : Hid (Owns w15 (.l (mkAll L 1)) [.slice gA J gc] (rng (w3.heap.size) (w4.heap.size))) := Lib.hid (Hg.out.below hb)
    replace Hh : Hid (Owns w15 (.l L) [.slice hA J hc] (rng (w12.heap.size) (w13.heap.size))) := Lib.hid (Hh.out.below hb)
    replace Bw : Hid (Box (w2.heap.size) [.int .i64 a0, .int .i64 a1, .int .i64 a2, .int .i64 a3, .string s, .slice wA J wc, .int .i64 a8, .int .i64 a9, .int .i64 a4, .int .i64 a5, .int .i64 a6, .int .i64 a7] w15) := Lib.hid (Bw.out.below hb)
    replace Bg : Hid (Box (w4.heap.size) [.int .i64 a0, .int .i64 a1, .int .i64 a2, .int .i64 a3, .string s, .slice gA J gc, .int .i64 a8, .int .i64 a9, .int .i64 a4, .int .i64 a5, .int .i64 a6, .int .i64 a7] w15) := Lib.hid (Bg.out.below hb)
    replace Bh : Hid (Box (w13.heap.size) [.int .i64 a0, .int .i64 a1, .int .i64 a2, .int .i64 a3, .string s, .slice hA J hc, .int .i64 a8, .int .i64 a9, .int .i64 a4, .int .i64 a5, .int .i64 a6, .int .i64 a7] w15) := Lib.hid (Bh.out.below hb)
    replace HT : Hid (Below W.heap.size W w15) := Lib.hid (HT.out.trans (hb.mono HT.out.size))
    have hsw15 : w14.heap.size ≤ w15.heap.size := (by have h1 := hb.size; (try simp only [World.size_alloc] at h1); exact h1)
    clear hb
    go_wp2_with fail
    go_ret
    exact GivesBool.ret HT.out
  · have hn1 : (1048576 : Int) < (n : Int) := by omega
    go_enter Try.func8, Try.ntmps8
    go_wp2_with fail
    go_ret
    exact GivesBool.ret (Below.refl _ _)
end Go.Proofs.Ytchofnligbgigaa
