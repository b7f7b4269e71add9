/- Exact laws of chapter 12: NewVat. For every id, every list of peers and every script, laws.FnExactNewVat returns true: impl.NewVat answers as the reference model's NewVat, and writes into nothing that it was handed, and what it hands back it owns. Conditions: none beyond the form's. Each argument reads behind the call as it read before. -/
import Derived.Test.YtmeacgpebpfpbaaNewVI
import Derived.Test.YtmeacgpebpfpbaaNewVS
import Derived.Test.YtmeacgpebpfpbaaMzMarkV7
import Derived.Test.YtmeacgpebpfpbaaMzLokV
import Derived.Test.YtmeacgpebpfpbaaTyV4
import Derived.Test.YtmeacgpebpfpbaaMzTyV5
import Derived.Test.YtmeacgpebpfpbaaMzTyV7
import Derived.Deep.RegionHeld3
import Derived.Deep.RegionLaw
import Derived.Deep.Cut
import Derived.LoopTactic
import Derived.Lib.Hide
import Derived.Deep.QuietTactic
import Derived.BigQuiet
import Derived.Deep.RegionWith
import Derived.Handy
import Derived.Test.YtmeacgpebpfpbaaRows
import Derived.Test.YtmeacgpebpfpbaaBase
import Derived.WalkKit
import Derived.ProofKit
import Derived.OpenShut
import Derived.Carry
import Derived.SizedLaws
import Derived.ChangeSlices
import Derived.Deep.DeepHandedRow
section
namespace Go.Proofs.Ytmeacgpebpfpbaa
open Go.RowKit
set_option linter.unusedVariables false
set_option linter.unusedSimpArgs false
theorem cntAll_map {f : Int → Dat} {K : Nat} (h : ∀ z, (f z).cnt ≤ K) : ∀ zs : List Int, cntAll (zs.map f) ≤ K * zs.length
  | [] => by simp [cntAll]
  | z :: zs => by
    have h1 := h z
    have h2 := cntAll_map h zs
    rw [List.map_cons, cntAll, List.length_cons, Nat.mul_add]
    omega
theorem hasI {n : Int} (h : -9223372036854775808 ≤ n ∧ n ≤ 9223372036854775807) : Has .int (.i n) := by rw [Has]; exact ⟨n, rfl, h.1, h.2⟩
theorem hasB (b : Bool) : Has .bool (.b b) := by rw [Has]; exact ⟨b, rfl⟩
theorem hasL (t : Ty) : Has (.sl t) (.l []) := by rw [Has]; exact ⟨[], rfl, by simp, fun x hx => by cases hx⟩
theorem hasS {t : Ty} {d : Dat} (h : Has t d) : Has (.sl t) (.l [d]) := by rw [Has]; exact ⟨[d], rfl, by simp, fun x hx => by rw [List.mem_singleton.1 hx]; exact h⟩
theorem hasR {ts : List Ty} {ds : List Dat} (h : HasAll ts ds) : Has (.rcd ts) (.r ds) := by rw [Has]; exact ⟨ds, rfl, h⟩
theorem hasN : HasAll [] [] := by rw [HasAll]
theorem hasC {t : Ty} {ts : List Ty} {d : Dat} {ds : List Dat} (h : Has t d) (k : HasAll ts ds) : HasAll (t :: ts) (d :: ds) := by rw [HasAll]; exact ⟨d, ds, rfl, h, k⟩
theorem hasObj {s : Int} (h : -9223372036854775808 ≤ s ∧ s ≤ 9223372036854775807) : Has tyEntity (objD s) := hasR (hasC (hasI (by omega)) (hasC (hasI h) (hasC (hasL _) (hasC (hasI (by omega)) (hasC (hasR (hasC (hasI (by omega)) (hasC (hasI (by omega)) hasN))) (hasC (hasL _) (hasC (hasL _) (hasC (hasI (by omega)) (hasC (hasI (by omega)) (hasC (hasI (by omega)) (hasC (hasI (by omega)) hasN)))))))))))
theorem hasProx {p : Int} (h : -9223372036854775808 ≤ p ∧ p ≤ 9223372036854775807) : Has tyEntity (proxD p) := hasR (hasC (hasI (by omega)) (hasC (hasI (by omega)) (hasC (hasL _) (hasC (hasI (by omega)) (hasC (hasR (hasC (hasI (by omega)) (hasC (hasI (by omega)) hasN))) (hasC (hasL _) (hasC (hasL _) (hasC (hasI h) (hasC (hasI (by omega)) (hasC (hasI (by omega)) (hasC (hasI (by omega)) hasN)))))))))))
theorem hasRoot {p : Int} (h : -9223372036854775808 ≤ p ∧ p ≤ 9223372036854775807) : Has tyLink (rootD p) := hasR (hasC (hasI h) (hasC (hasB _) (hasC (hasS (hasR (hasC (hasI (by omega)) (hasC (hasI (by omega)) (hasC (hasI (by omega)) hasN))))) (hasC (hasI (by omega)) (hasC (hasL _) (hasC (hasI (by omega)) (hasC (hasL _) hasN)))))))
set_option maxRecDepth 100000 in
set_option maxHeartbeats 16000000 in
theorem law_NewVat (a0 : Int) (A : Option Addr) (n c : Nat) (a2 : Int) (W : World) (hN : Nums W A n) (ha2 : -9223372036854775808 ≤ a2 ∧ a2 ≤ 9223372036854775807) :
    Calls Try.prog 4 #[.int .i64 a0, .slice A n c, .int .i64 a2] W (GivesBool true W) := by
  obtain ⟨zs, hz, hnum⟩ := hN
  have HR := Lib.hid hz
  have HNU := Lib.hid hnum
  clear hz hnum
  have HT : Hid (Below W.heap.size W W) := Lib.hid (Below.refl _ _)
  by_cases hbig : n ≤ 1048576
  · skip
    have HO1 : Hid (∀ x ∈ objD a2 :: zs.map proxD, Has tyEntity x) := Lib.hid (fun x hx => by rcases List.mem_cons.1 hx with rfl | hx; exact hasObj ha2; obtain ⟨z, hz, rfl⟩ := List.mem_map.1 hx; exact hasProx (HNU.out z hz))
    have HO3 : Hid (∀ x ∈ zs.map rootD, Has tyLink x) := Lib.hid (fun x hx => by obtain ⟨z, hz, rfl⟩ := List.mem_map.1 hx; exact hasRoot (HNU.out z hz))
    obtain ⟨N1, hN1e⟩ : ∃ N, objD a2 :: zs.map proxD = N := ⟨_, rfl⟩
    obtain ⟨N3, hN3e⟩ : ∃ N, zs.map rootD = N := ⟨_, rfl⟩
    have hk1 : cntAll (objD a2 :: zs.map proxD) ≤ 12 + 12 * 1048576 := by
      rw [cntAll]
      have h1 := cntAll_map (K := 12) (f := proxD) (fun z => by simp [proxD, Dat.cnt, cntAll]) zs
      have h2 := HR.out.1
      have h3 : (objD a2).cnt ≤ 12 := by simp [objD, Dat.cnt, cntAll]
      omega
    have hk3 : cntAll (zs.map rootD) ≤ 12 * 1048576 := by
      have h1 := cntAll_map (K := 12) (f := rootD) (fun z => by simp [rootD, Dat.cnt, cntAll]) zs
      have h2 := HR.out.1
      omega
    have hk0 : cntAll [] = 0 := by rw [cntAll]
    rw [hN1e] at HO1 hk1
    rw [hN3e] at HO3 hk3
    have CSP : Hid (∀ (A' : Option Addr) (n' c' : Nat) (w : World), Rz .i64 w A' n' zs → Calls Try.prog 21 #[.int .i64 a0, .slice A' n' c', .int .i64 a2] w (GivesVt a0 N1 (n + 1) [] 0 N3 n [] 0 w)) := Lib.hid (fun A' n' c' w h => by
      have e1 : n' = n := by rw [← h.1, ← HR.out.1]
      subst e1
      rw [← hN1e, ← hN3e]
      exact specNewVat a0 zs A' _ c' a2 w h (by omega))
    have CIM : Hid (∀ (A' : Option Addr) (n' c' : Nat) (w : World), Rz .i64 w A' n' zs → Calls Try.prog 17 #[.int .i64 a0, .slice A' n' c', .int .i64 a2] w (GivesVt a0 N1 (n + 1) [] 0 N3 n [] 0 w)) := Lib.hid (fun A' n' c' w h => by
      have e1 : n' = n := by rw [← h.1, ← HR.out.1]
      subst e1
      rw [← hN1e, ← hN3e]
      exact implNewVat a0 zs A' _ c' a2 w h (by omega))
    clear hN1e hN3e ha2
    have htN1 := HO1.out
    have htN3 := HO3.out
    clear HO1 HO3
    go_enter Try.func4, Try.ntmps4
    go_wp2_with fail
    refine (toI A n c zs _ (HR.out.below HT.out) (by omega)).mono ?_
    rintro e w1 ⟨tA, tn, tc, rfl, hO, hb⟩
    replace HT : Hid (Below W.heap.size W w1) := Lib.hid (HT.out.trans (hb.mono HT.out.size))
    have hsw1 : W.heap.size ≤ w1.heap.size := (by have h1 := hb.size; (try simp only [World.size_alloc, World.size_drew] at h1); exact h1)
    have hnt : tn ≤ 1048576 := by have h1 := hO.1; have h2 := HR.out.1; omega
    have It := Lib.hid hO
    clear hO hb
    go_wp2_with fail
    refine (CSP.out tA tn tc _ It.out.rz).mono ?_
    rintro e w2 ⟨wA1, wc1, wA2, wc2, wA3, wc3, wA4, wc4, rfl, hV, hb⟩
    replace HT : Hid (Below W.heap.size W w2) := Lib.hid (HT.out.trans (hb.mono HT.out.size))
    replace It := Lib.hid (It.out.below hb)
    have hsw2 : w1.heap.size ≤ w2.heap.size := (by have h1 := hb.size; (try simp only [World.size_alloc, World.size_drew] at h1); exact h1)
    have Hw : Hid (Owns w2 (.r [.i a0, .l N1, .l [], .l N3, .l []]) [.int .i64 a0, .slice wA1 (n + 1) wc1, .slice wA2 0 wc2, .slice wA3 n wc3, .slice wA4 0 wc4] (rng (w1.heap.size) (w2.heap.size))) := Lib.hid (by refine Owns.mono (fun b hb => ?_) (hV.owns); have h1 := hb.1; have h2 := hb.2; (try simp only [World.size_alloc, World.size_drew] at h1 h2); exact ⟨by omega, by omega⟩)
    clear hV hb
    have hb : Below w2.heap.size w2 (w2.alloc (.cells #[.int .i64 a0, .slice wA1 (n + 1) wc1, .slice wA2 0 wc2, .slice wA3 n wc3, .slice wA4 0 wc4] 29)) := (Below.refl _ _).alloc (Nat.le_refl _) _
    replace Hw : Hid (Owns (w2.alloc (.cells #[.int .i64 a0, .slice wA1 (n + 1) wc1, .slice wA2 0 wc2, .slice wA3 n wc3, .slice wA4 0 wc4] 29)) (.r [.i a0, .l N1, .l [], .l N3, .l []]) [.int .i64 a0, .slice wA1 (n + 1) wc1, .slice wA2 0 wc2, .slice wA3 n wc3, .slice wA4 0 wc4] (rng (w1.heap.size) (w2.heap.size))) := Lib.hid (Hw.out.below hb)
    replace HT : Hid (Below W.heap.size W (w2.alloc (.cells #[.int .i64 a0, .slice wA1 (n + 1) wc1, .slice wA2 0 wc2, .slice wA3 n wc3, .slice wA4 0 wc4] 29))) := Lib.hid (HT.out.trans (hb.mono HT.out.size))
    replace It := Lib.hid (It.out.below hb)
    clear hb
    have Bw : Hid (Box (w2.heap.size) [.int .i64 a0, .slice wA1 (n + 1) wc1, .slice wA2 0 wc2, .slice wA3 n wc3, .slice wA4 0 wc4] (w2.alloc (.cells #[.int .i64 a0, .slice wA1 (n + 1) wc1, .slice wA2 0 wc2, .slice wA3 n wc3, .slice wA4 0 wc4] 29))) := Lib.hid (by have h1 := Box.new w2 #[.int .i64 a0, .slice wA1 (n + 1) wc1, .slice wA2 0 wc2, .slice wA3 n wc3, .slice wA4 0 wc4] 29; (try simp only [World.size_alloc] at h1); exact h1)
    clear It
    go_wp2_with fail
    refine (toI A n c zs _ (HR.out.below HT.out) (by omega)).mono ?_
    rintro e w3 ⟨xA, xn, xc, rfl, hO, hb⟩
    replace Hw : Hid (Owns w3 (.r [.i a0, .l N1, .l [], .l N3, .l []]) [.int .i64 a0, .slice wA1 (n + 1) wc1, .slice wA2 0 wc2, .slice wA3 n wc3, .slice wA4 0 wc4] (rng (w1.heap.size) (w2.heap.size))) := Lib.hid (Hw.out.below hb)
    replace Bw : Hid (Box (w2.heap.size) [.int .i64 a0, .slice wA1 (n + 1) wc1, .slice wA2 0 wc2, .slice wA3 n wc3, .slice wA4 0 wc4] w3) := Lib.hid (Bw.out.below hb)
    replace HT : Hid (Below W.heap.size W w3) := Lib.hid (HT.out.trans (hb.mono HT.out.size))
    have hsw3 : w2.heap.size + 1 ≤ w3.heap.size := (by have h1 := hb.size; (try simp only [World.size_alloc, World.size_drew] at h1); exact h1)
    have hnx : xn ≤ 1048576 := by have h1 := hO.1; have h2 := HR.out.1; omega
    have Ix := Lib.hid hO
    clear hO hb
    go_wp2_with fail
    refine (CIM.out xA xn xc _ Ix.out.rz).mono ?_
    rintro e w4 ⟨gA1, gc1, gA2, gc2, gA3, gc3, gA4, gc4, rfl, hV, hb⟩
    replace Hw : Hid (Owns w4 (.r [.i a0, .l N1, .l [], .l N3, .l []]) [.int .i64 a0, .slice wA1 (n + 1) wc1, .slice wA2 0 wc2, .slice wA3 n wc3, .slice wA4 0 wc4] (rng (w1.heap.size) (w2.heap.size))) := Lib.hid (Hw.out.below hb)
    replace Bw : Hid (Box (w2.heap.size) [.int .i64 a0, .slice wA1 (n + 1) wc1, .slice wA2 0 wc2, .slice wA3 n wc3, .slice wA4 0 wc4] w4) := Lib.hid (Bw.out.below hb)
    replace HT : Hid (Below W.heap.size W w4) := Lib.hid (HT.out.trans (hb.mono HT.out.size))
    replace Ix := Lib.hid (Ix.out.below hb)
    have hsw4 : w3.heap.size ≤ w4.heap.size := (by have h1 := hb.size; (try simp only [World.size_alloc, World.size_drew] at h1); exact h1)
    have Hg : Hid (Owns w4 (.r [.i a0, .l N1, .l [], .l N3, .l []]) [.int .i64 a0, .slice gA1 (n + 1) gc1, .slice gA2 0 gc2, .slice gA3 n gc3, .slice gA4 0 gc4] (rng (w3.heap.size) (w4.heap.size))) := Lib.hid (by refine Owns.mono (fun b hb => ?_) (hV.owns); have h1 := hb.1; have h2 := hb.2; (try simp only [World.size_alloc, World.size_drew] at h1 h2); exact ⟨by omega, by omega⟩)
    clear hV hb
    have hb : Below w4.heap.size w4 (w4.alloc (.cells #[.int .i64 a0, .slice gA1 (n + 1) gc1, .slice gA2 0 gc2, .slice gA3 n gc3, .slice gA4 0 gc4] 29)) := (Below.refl _ _).alloc (Nat.le_refl _) _
    replace Hw : Hid (Owns (w4.alloc (.cells #[.int .i64 a0, .slice gA1 (n + 1) gc1, .slice gA2 0 gc2, .slice gA3 n gc3, .slice gA4 0 gc4] 29)) (.r [.i a0, .l N1, .l [], .l N3, .l []]) [.int .i64 a0, .slice wA1 (n + 1) wc1, .slice wA2 0 wc2, .slice wA3 n wc3, .slice wA4 0 wc4] (rng (w1.heap.size) (w2.heap.size))) := Lib.hid (Hw.out.below hb)
    replace Hg : Hid (Owns (w4.alloc (.cells #[.int .i64 a0, .slice gA1 (n + 1) gc1, .slice gA2 0 gc2, .slice gA3 n gc3, .slice gA4 0 gc4] 29)) (.r [.i a0, .l N1, .l [], .l N3, .l []]) [.int .i64 a0, .slice gA1 (n + 1) gc1, .slice gA2 0 gc2, .slice gA3 n gc3, .slice gA4 0 gc4] (rng (w3.heap.size) (w4.heap.size))) := Lib.hid (Hg.out.below hb)
    replace Bw : Hid (Box (w2.heap.size) [.int .i64 a0, .slice wA1 (n + 1) wc1, .slice wA2 0 wc2, .slice wA3 n wc3, .slice wA4 0 wc4] (w4.alloc (.cells #[.int .i64 a0, .slice gA1 (n + 1) gc1, .slice gA2 0 gc2, .slice gA3 n gc3, .slice gA4 0 gc4] 29))) := Lib.hid (Bw.out.below hb)
    replace HT : Hid (Below W.heap.size W (w4.alloc (.cells #[.int .i64 a0, .slice gA1 (n + 1) gc1, .slice gA2 0 gc2, .slice gA3 n gc3, .slice gA4 0 gc4] 29))) := Lib.hid (HT.out.trans (hb.mono HT.out.size))
    replace Ix := Lib.hid (Ix.out.below hb)
    clear hb
    have Bg : Hid (Box (w4.heap.size) [.int .i64 a0, .slice gA1 (n + 1) gc1, .slice gA2 0 gc2, .slice gA3 n gc3, .slice gA4 0 gc4] (w4.alloc (.cells #[.int .i64 a0, .slice gA1 (n + 1) gc1, .slice gA2 0 gc2, .slice gA3 n gc3, .slice gA4 0 gc4] 29))) := Lib.hid (by have h1 := Box.new w4 #[.int .i64 a0, .slice gA1 (n + 1) gc1, .slice gA2 0 gc2, .slice gA3 n gc3, .slice gA4 0 gc4] 29; (try simp only [World.size_alloc] at h1); exact h1)
    obtain ⟨zg0, zg1, zg2, zg3, zg4⟩ := Bg.out.c5
    obtain ⟨zw0, zw1, zw2, zw3, zw4⟩ := Bw.out.c5
    go_wp2_with fail
    refine (eqVat a0 N1 gA1 (n + 1) gc1 [] gA2 0 gc2 N3 gA3 n gc3 [] gA4 0 gc4 wA1 wc1 wA2 wc2 wA3 wc3 wA4 wc4 _ (liesVat1 Hg.out) (liesVat1 Hw.out) htN1 (by omega) (liesVat2 Hg.out) (liesVat2 Hw.out) (fun x h => by cases h) (by omega) (liesVat3 Hg.out) (liesVat3 Hw.out) htN3 (by omega) (liesVat4 Hg.out) (liesVat4 Hw.out) (fun x h => by cases h) (by omega)).mono ?_
    rintro e w5 ⟨rfl, hb⟩
    clear zg0 zg1 zg2 zg3 zg4
    clear zw0 zw1 zw2 zw3 zw4
    replace Hw : Hid (Owns w5 (.r [.i a0, .l N1, .l [], .l N3, .l []]) [.int .i64 a0, .slice wA1 (n + 1) wc1, .slice wA2 0 wc2, .slice wA3 n wc3, .slice wA4 0 wc4] (rng (w1.heap.size) (w2.heap.size))) := Lib.hid (Hw.out.below hb)
    replace Hg : Hid (Owns w5 (.r [.i a0, .l N1, .l [], .l N3, .l []]) [.int .i64 a0, .slice gA1 (n + 1) gc1, .slice gA2 0 gc2, .slice gA3 n gc3, .slice gA4 0 gc4] (rng (w3.heap.size) (w4.heap.size))) := Lib.hid (Hg.out.below hb)
    replace Bw : Hid (Box (w2.heap.size) [.int .i64 a0, .slice wA1 (n + 1) wc1, .slice wA2 0 wc2, .slice wA3 n wc3, .slice wA4 0 wc4] w5) := Lib.hid (Bw.out.below hb)
    replace Bg : Hid (Box (w4.heap.size) [.int .i64 a0, .slice gA1 (n + 1) gc1, .slice gA2 0 gc2, .slice gA3 n gc3, .slice gA4 0 gc4] w5) := Lib.hid (Bg.out.below hb)
    replace HT : Hid (Below W.heap.size W w5) := Lib.hid (HT.out.trans (hb.mono HT.out.size))
    replace Ix := Lib.hid (Ix.out.below hb)
    have hsw5 : w4.heap.size + 1 ≤ w5.heap.size := (by have h1 := hb.size; (try simp only [World.size_alloc, World.size_drew] at h1); exact h1)
    clear hb
    go_wp2_with fail
    refine (toI A n c zs _ (HR.out.below HT.out) (by omega)).mono ?_
    rintro e w6 ⟨uA, un, uc, rfl, hO, hb⟩
    replace Hw : Hid (Owns w6 (.r [.i a0, .l N1, .l [], .l N3, .l []]) [.int .i64 a0, .slice wA1 (n + 1) wc1, .slice wA2 0 wc2, .slice wA3 n wc3, .slice wA4 0 wc4] (rng (w1.heap.size) (w2.heap.size))) := Lib.hid (Hw.out.below hb)
    replace Hg : Hid (Owns w6 (.r [.i a0, .l N1, .l [], .l N3, .l []]) [.int .i64 a0, .slice gA1 (n + 1) gc1, .slice gA2 0 gc2, .slice gA3 n gc3, .slice gA4 0 gc4] (rng (w3.heap.size) (w4.heap.size))) := Lib.hid (Hg.out.below hb)
    replace Bw : Hid (Box (w2.heap.size) [.int .i64 a0, .slice wA1 (n + 1) wc1, .slice wA2 0 wc2, .slice wA3 n wc3, .slice wA4 0 wc4] w6) := Lib.hid (Bw.out.below hb)
    replace Bg : Hid (Box (w4.heap.size) [.int .i64 a0, .slice gA1 (n + 1) gc1, .slice gA2 0 gc2, .slice gA3 n gc3, .slice gA4 0 gc4] w6) := Lib.hid (Bg.out.below hb)
    replace HT : Hid (Below W.heap.size W w6) := Lib.hid (HT.out.trans (hb.mono HT.out.size))
    replace Ix := Lib.hid (Ix.out.below hb)
    have hsw6 : w5.heap.size ≤ w6.heap.size := (by have h1 := hb.size; (try simp only [World.size_alloc, World.size_drew] at h1); exact h1)
    have hnu : un ≤ 1048576 := by have h1 := hO.1; have h2 := HR.out.1; omega
    have Iu := Lib.hid hO
    clear hO hb
    go_wp2_with fail
    refine (eqI xA uA xn un xc uc zs zs _ Ix.out.rz Iu.out.rz rfl (by omega)).mono ?_
    rintro e w7 ⟨rfl, hb⟩
    replace Hw : Hid (Owns w7 (.r [.i a0, .l N1, .l [], .l N3, .l []]) [.int .i64 a0, .slice wA1 (n + 1) wc1, .slice wA2 0 wc2, .slice wA3 n wc3, .slice wA4 0 wc4] (rng (w1.heap.size) (w2.heap.size))) := Lib.hid (Hw.out.below hb)
    replace Hg : Hid (Owns w7 (.r [.i a0, .l N1, .l [], .l N3, .l []]) [.int .i64 a0, .slice gA1 (n + 1) gc1, .slice gA2 0 gc2, .slice gA3 n gc3, .slice gA4 0 gc4] (rng (w3.heap.size) (w4.heap.size))) := Lib.hid (Hg.out.below hb)
    replace Bw : Hid (Box (w2.heap.size) [.int .i64 a0, .slice wA1 (n + 1) wc1, .slice wA2 0 wc2, .slice wA3 n wc3, .slice wA4 0 wc4] w7) := Lib.hid (Bw.out.below hb)
    replace Bg : Hid (Box (w4.heap.size) [.int .i64 a0, .slice gA1 (n + 1) gc1, .slice gA2 0 gc2, .slice gA3 n gc3, .slice gA4 0 gc4] w7) := Lib.hid (Bg.out.below hb)
    replace HT : Hid (Below W.heap.size W w7) := Lib.hid (HT.out.trans (hb.mono HT.out.size))
    replace Ix := Lib.hid (Ix.out.below hb)
    replace Iu := Lib.hid (Iu.out.below hb)
    have hsw7 : w6.heap.size ≤ w7.heap.size := (by have h1 := hb.size; (try simp only [World.size_alloc, World.size_drew] at h1); exact h1)
    clear hb
    clear Iu
    go_wp2_with fail
    refine (markI _ _ xA xn xc 1 zs _ Ix.out (by omega) (by omega) (by omega)).mono ?_
    rintro e w8 ⟨rfl, -, hS⟩
    have hT := Touch.of_step hS
    clear hS
    clear Ix
    replace Hw : Hid (Owns w8 (.r [.i a0, .l N1, .l [], .l N3, .l []]) [.int .i64 a0, .slice wA1 (n + 1) wc1, .slice wA2 0 wc2, .slice wA3 n wc3, .slice wA4 0 wc4] (rng (w1.heap.size) (w2.heap.size))) := Lib.hid (Hw.out.touch hT (fun b h1 h2 => by have pA := h1.1; have pB := h1.2; have qA := h2.1; have qB := h2.2; (try simp only [World.size_alloc, World.size_drew] at qA qB); omega))
    replace Hg : Hid (Owns w8 (.r [.i a0, .l N1, .l [], .l N3, .l []]) [.int .i64 a0, .slice gA1 (n + 1) gc1, .slice gA2 0 gc2, .slice gA3 n gc3, .slice gA4 0 gc4] (rng (w3.heap.size) (w4.heap.size))) := Lib.hid (Hg.out.touch hT (fun b h1 h2 => by have pA := h1.1; have pB := h1.2; have qA := h2.1; have qB := h2.2; (try simp only [World.size_alloc, World.size_drew] at qA qB); omega))
    replace Bw : Hid (Box (w2.heap.size) [.int .i64 a0, .slice wA1 (n + 1) wc1, .slice wA2 0 wc2, .slice wA3 n wc3, .slice wA4 0 wc4] w8) := Lib.hid (Bw.out.touch hT (fun h2 => by have qA := h2.1; have qB := h2.2; (try simp only [World.size_alloc, World.size_drew] at qA qB); omega))
    replace Bg : Hid (Box (w4.heap.size) [.int .i64 a0, .slice gA1 (n + 1) gc1, .slice gA2 0 gc2, .slice gA3 n gc3, .slice gA4 0 gc4] w8) := Lib.hid (Bg.out.touch hT (fun h2 => by have qA := h2.1; have qB := h2.2; (try simp only [World.size_alloc, World.size_drew] at qA qB); omega))
    replace HT : Hid (Below W.heap.size W w8) := Lib.hid (HT.out.trans (hT.below (fun b h2 => by have qA := h2.1; have qB := h2.2; (try simp only [World.size_alloc, World.size_drew] at qA qB); omega) HT.out.size))
    have hsw8 : w7.heap.size ≤ w8.heap.size := hT.size
    clear hT
    have hka : (0 : Int) ≤ 1 + (xn : Int) := by omega
    have hkb : (decide ((1 + (xn : Int)) < 0)) = false := by (simp; try omega)
    obtain ⟨zg0, zg1, zg2, zg3, zg4⟩ := Bg.out.c5
    obtain ⟨zw0, zw1, zw2, zw3, zw4⟩ := Bw.out.c5
    go_wp2_with fail
    refine (eqVat a0 N1 gA1 (n + 1) gc1 [] gA2 0 gc2 N3 gA3 n gc3 [] gA4 0 gc4 wA1 wc1 wA2 wc2 wA3 wc3 wA4 wc4 _ (liesVat1 Hg.out) (liesVat1 Hw.out) htN1 (by omega) (liesVat2 Hg.out) (liesVat2 Hw.out) (fun x h => by cases h) (by omega) (liesVat3 Hg.out) (liesVat3 Hw.out) htN3 (by omega) (liesVat4 Hg.out) (liesVat4 Hw.out) (fun x h => by cases h) (by omega)).mono ?_
    rintro e w9 ⟨rfl, hb⟩
    clear zg0 zg1 zg2 zg3 zg4
    clear zw0 zw1 zw2 zw3 zw4
    replace Hw : Hid (Owns w9 (.r [.i a0, .l N1, .l [], .l N3, .l []]) [.int .i64 a0, .slice wA1 (n + 1) wc1, .slice wA2 0 wc2, .slice wA3 n wc3, .slice wA4 0 wc4] (rng (w1.heap.size) (w2.heap.size))) := Lib.hid (Hw.out.below hb)
    replace Hg : Hid (Owns w9 (.r [.i a0, .l N1, .l [], .l N3, .l []]) [.int .i64 a0, .slice gA1 (n + 1) gc1, .slice gA2 0 gc2, .slice gA3 n gc3, .slice gA4 0 gc4] (rng (w3.heap.size) (w4.heap.size))) := Lib.hid (Hg.out.below hb)
    replace Bw : Hid (Box (w2.heap.size) [.int .i64 a0, .slice wA1 (n + 1) wc1, .slice wA2 0 wc2, .slice wA3 n wc3, .slice wA4 0 wc4] w9) := Lib.hid (Bw.out.below hb)
    replace Bg : Hid (Box (w4.heap.size) [.int .i64 a0, .slice gA1 (n + 1) gc1, .slice gA2 0 gc2, .slice gA3 n gc3, .slice gA4 0 gc4] w9) := Lib.hid (Bg.out.below hb)
    replace HT : Hid (Below W.heap.size W w9) := Lib.hid (HT.out.trans (hb.mono HT.out.size))
    have hsw9 : w8.heap.size ≤ w9.heap.size := (by have h1 := hb.size; (try simp only [World.size_alloc, World.size_drew] at h1); exact h1)
    clear hb
    clear hka hkb
    obtain ⟨zg0, zg1, zg2, zg3, zg4⟩ := Bg.out.c5
    go_wp2_with fail
    refine (markRVat a0 N1 gA1 (n + 1) gc1 [] gA2 0 gc2 N3 gA3 n gc3 [] gA4 0 gc4 (1) (rng (w3.heap.size) (w4.heap.size)) _ Hg.out htN1 (by omega) (fun x h => by cases h) (by omega) htN3 (by omega) (fun x h => by cases h) (by omega) (by omega) (by omega) (fun b hb => by have hA := hb.1; have hB := hb.2; omega)).mono ?_
    rintro e w10 ⟨rfl, hO, hT⟩
    clear zg0 zg1 zg2 zg3 zg4
    replace Hw : Hid (Owns w10 (.r [.i a0, .l N1, .l [], .l N3, .l []]) [.int .i64 a0, .slice wA1 (n + 1) wc1, .slice wA2 0 wc2, .slice wA3 n wc3, .slice wA4 0 wc4] (rng (w1.heap.size) (w2.heap.size))) := Lib.hid (Hw.out.touch hT (fun b h1 h2 => by have pA := h1.1; have pB := h1.2; have qA := h2.1; have qB := h2.2; omega))
    replace Bw : Hid (Box (w2.heap.size) [.int .i64 a0, .slice wA1 (n + 1) wc1, .slice wA2 0 wc2, .slice wA3 n wc3, .slice wA4 0 wc4] w10) := Lib.hid (Bw.out.touch hT (fun h2 => by have qA := h2.1; have qB := h2.2; omega))
    replace Bg : Hid (Box (w4.heap.size) [.int .i64 a0, .slice gA1 (n + 1) gc1, .slice gA2 0 gc2, .slice gA3 n gc3, .slice gA4 0 gc4] w10) := Lib.hid (Bg.out.touch hT (fun h2 => by have qA := h2.1; have qB := h2.2; omega))
    replace HT : Hid (Below W.heap.size W w10) := Lib.hid (HT.out.trans (hT.below (fun b h2 => by have qA := h2.1; have qB := h2.2; omega) HT.out.size))
    have hsw10 : w9.heap.size ≤ w10.heap.size := hT.size
    replace Hg : Hid (Owns w10 (.r [.i a0, .l (mkAll N1 (1)), .l (mkAll [] (1 + cntAll N1)), .l (mkAll N3 (1 + cntAll N1 + cntAll [])), .l (mkAll [] (1 + cntAll N1 + cntAll [] + cntAll N3))]) [.int .i64 a0, .slice gA1 (n + 1) gc1, .slice gA2 0 gc2, .slice gA3 n gc3, .slice gA4 0 gc4] (rng (w3.heap.size) (w4.heap.size))) := Lib.hid hO
    clear hO hT
    have hka : (0 : Int) ≤ 1 + cntAll N1 + cntAll [] + cntAll N3 + cntAll [] := by omega
    have hkb : (decide ((1 + cntAll N1 + cntAll [] + cntAll N3 + cntAll []) < 0)) = false := by (simp; try omega)
    obtain ⟨zg0, zg1, zg2, zg3, zg4⟩ := Bg.out.c5
    go_wp2_with fail
    refine (heldRVat a0 N1 gA1 (n + 1) gc1 [] gA2 0 gc2 N3 gA3 n gc3 [] gA4 0 gc4 (1) _ (liesVat1 Hg.out) (liesVat2 Hg.out) (liesVat3 Hg.out) (liesVat4 Hg.out) htN1 (by omega) (fun x h => by cases h) (by omega) htN3 (by omega) (fun x h => by cases h) (by omega) (by omega) (by omega)).mono ?_
    rintro e w11 ⟨rfl, hb⟩
    clear zg0 zg1 zg2 zg3 zg4
    replace Hw : Hid (Owns w11 (.r [.i a0, .l N1, .l [], .l N3, .l []]) [.int .i64 a0, .slice wA1 (n + 1) wc1, .slice wA2 0 wc2, .slice wA3 n wc3, .slice wA4 0 wc4] (rng (w1.heap.size) (w2.heap.size))) := Lib.hid (Hw.out.below hb)
    replace Hg : Hid (Owns w11 (.r [.i a0, .l (mkAll N1 (1)), .l (mkAll [] (1 + cntAll N1)), .l (mkAll N3 (1 + cntAll N1 + cntAll [])), .l (mkAll [] (1 + cntAll N1 + cntAll [] + cntAll N3))]) [.int .i64 a0, .slice gA1 (n + 1) gc1, .slice gA2 0 gc2, .slice gA3 n gc3, .slice gA4 0 gc4] (rng (w3.heap.size) (w4.heap.size))) := Lib.hid (Hg.out.below hb)
    replace Bw : Hid (Box (w2.heap.size) [.int .i64 a0, .slice wA1 (n + 1) wc1, .slice wA2 0 wc2, .slice wA3 n wc3, .slice wA4 0 wc4] w11) := Lib.hid (Bw.out.below hb)
    replace Bg : Hid (Box (w4.heap.size) [.int .i64 a0, .slice gA1 (n + 1) gc1, .slice gA2 0 gc2, .slice gA3 n gc3, .slice gA4 0 gc4] w11) := Lib.hid (Bg.out.below hb)
    replace HT : Hid (Below W.heap.size W w11) := Lib.hid (HT.out.trans (hb.mono HT.out.size))
    have hsw11 : w10.heap.size ≤ w11.heap.size := (by have h1 := hb.size; (try simp only [World.size_alloc, World.size_drew] at h1); exact h1)
    clear hb
    go_wp2_with fail
    refine (toI A n c zs _ (HR.out.below HT.out) (by omega)).mono ?_
    rintro e w12 ⟨tA, tn, tc, rfl, hO, hb⟩
    replace Hw : Hid (Owns w12 (.r [.i a0, .l N1, .l [], .l N3, .l []]) [.int .i64 a0, .slice wA1 (n + 1) wc1, .slice wA2 0 wc2, .slice wA3 n wc3, .slice wA4 0 wc4] (rng (w1.heap.size) (w2.heap.size))) := Lib.hid (Hw.out.below hb)
    replace Hg : Hid (Owns w12 (.r [.i a0, .l (mkAll N1 (1)), .l (mkAll [] (1 + cntAll N1)), .l (mkAll N3 (1 + cntAll N1 + cntAll [])), .l (mkAll [] (1 + cntAll N1 + cntAll [] + cntAll N3))]) [.int .i64 a0, .slice gA1 (n + 1) gc1, .slice gA2 0 gc2, .slice gA3 n gc3, .slice gA4 0 gc4] (rng (w3.heap.size) (w4.heap.size))) := Lib.hid (Hg.out.below hb)
    replace Bw : Hid (Box (w2.heap.size) [.int .i64 a0, .slice wA1 (n + 1) wc1, .slice wA2 0 wc2, .slice wA3 n wc3, .slice wA4 0 wc4] w12) := Lib.hid (Bw.out.below hb)
    replace Bg : Hid (Box (w4.heap.size) [.int .i64 a0, .slice gA1 (n + 1) gc1, .slice gA2 0 gc2, .slice gA3 n gc3, .slice gA4 0 gc4] w12) := Lib.hid (Bg.out.below hb)
    replace HT : Hid (Below W.heap.size W w12) := Lib.hid (HT.out.trans (hb.mono HT.out.size))
    have hsw12 : w11.heap.size ≤ w12.heap.size := (by have h1 := hb.size; (try simp only [World.size_alloc, World.size_drew] at h1); exact h1)
    have hnt : tn ≤ 1048576 := by have h1 := hO.1; have h2 := HR.out.1; omega
    have It := Lib.hid hO
    clear hO hb
    go_wp2_with fail
    refine (CIM.out tA tn tc _ It.out.rz).mono ?_
    rintro e w13 ⟨hA1, hc1, hA2, hc2, hA3, hc3, hA4, hc4, rfl, hV, hb⟩
    replace Hw : Hid (Owns w13 (.r [.i a0, .l N1, .l [], .l N3, .l []]) [.int .i64 a0, .slice wA1 (n + 1) wc1, .slice wA2 0 wc2, .slice wA3 n wc3, .slice wA4 0 wc4] (rng (w1.heap.size) (w2.heap.size))) := Lib.hid (Hw.out.below hb)
    replace Hg : Hid (Owns w13 (.r [.i a0, .l (mkAll N1 (1)), .l (mkAll [] (1 + cntAll N1)), .l (mkAll N3 (1 + cntAll N1 + cntAll [])), .l (mkAll [] (1 + cntAll N1 + cntAll [] + cntAll N3))]) [.int .i64 a0, .slice gA1 (n + 1) gc1, .slice gA2 0 gc2, .slice gA3 n gc3, .slice gA4 0 gc4] (rng (w3.heap.size) (w4.heap.size))) := Lib.hid (Hg.out.below hb)
    replace Bw : Hid (Box (w2.heap.size) [.int .i64 a0, .slice wA1 (n + 1) wc1, .slice wA2 0 wc2, .slice wA3 n wc3, .slice wA4 0 wc4] w13) := Lib.hid (Bw.out.below hb)
    replace Bg : Hid (Box (w4.heap.size) [.int .i64 a0, .slice gA1 (n + 1) gc1, .slice gA2 0 gc2, .slice gA3 n gc3, .slice gA4 0 gc4] w13) := Lib.hid (Bg.out.below hb)
    replace HT : Hid (Below W.heap.size W w13) := Lib.hid (HT.out.trans (hb.mono HT.out.size))
    replace It := Lib.hid (It.out.below hb)
    have hsw13 : w12.heap.size ≤ w13.heap.size := (by have h1 := hb.size; (try simp only [World.size_alloc, World.size_drew] at h1); exact h1)
    have Hh : Hid (Owns w13 (.r [.i a0, .l N1, .l [], .l N3, .l []]) [.int .i64 a0, .slice hA1 (n + 1) hc1, .slice hA2 0 hc2, .slice hA3 n hc3, .slice hA4 0 hc4] (rng (w12.heap.size) (w13.heap.size))) := Lib.hid (by refine Owns.mono (fun b hb => ?_) (hV.owns); have h1 := hb.1; have h2 := hb.2; (try simp only [World.size_alloc, World.size_drew] at h1 h2); exact ⟨by omega, by omega⟩)
    clear hV hb
    have hb : Below w13.heap.size w13 (w13.alloc (.cells #[.int .i64 a0, .slice hA1 (n + 1) hc1, .slice hA2 0 hc2, .slice hA3 n hc3, .slice hA4 0 hc4] 29)) := (Below.refl _ _).alloc (Nat.le_refl _) _
    replace Hw : Hid (Owns (w13.alloc (.cells #[.int .i64 a0, .slice hA1 (n + 1) hc1, .slice hA2 0 hc2, .slice hA3 n hc3, .slice hA4 0 hc4] 29)) (.r [.i a0, .l N1, .l [], .l N3, .l []]) [.int .i64 a0, .slice wA1 (n + 1) wc1, .slice wA2 0 wc2, .slice wA3 n wc3, .slice wA4 0 wc4] (rng (w1.heap.size) (w2.heap.size))) := Lib.hid (Hw.out.below hb)
    replace Hg : Hid (Owns (w13.alloc (.cells #[.int .i64 a0, .slice hA1 (n + 1) hc1, .slice hA2 0 hc2, .slice hA3 n hc3, .slice hA4 0 hc4] 29)) (.r [.i a0, .l (mkAll N1 (1)), .l (mkAll [] (1 + cntAll N1)), .l (mkAll N3 (1 + cntAll N1 + cntAll [])), .l (mkAll [] (1 + cntAll N1 + cntAll [] + cntAll N3))]) [.int .i64 a0, .slice gA1 (n + 1) gc1, .slice gA2 0 gc2, .slice gA3 n gc3, .slice gA4 0 gc4] (rng (w3.heap.size) (w4.heap.size))) := Lib.hid (Hg.out.below hb)
    replace Hh : Hid (Owns (w13.alloc (.cells #[.int .i64 a0, .slice hA1 (n + 1) hc1, .slice hA2 0 hc2, .slice hA3 n hc3, .slice hA4 0 hc4] 29)) (.r [.i a0, .l N1, .l [], .l N3, .l []]) [.int .i64 a0, .slice hA1 (n + 1) hc1, .slice hA2 0 hc2, .slice hA3 n hc3, .slice hA4 0 hc4] (rng (w12.heap.size) (w13.heap.size))) := Lib.hid (Hh.out.below hb)
    replace Bw : Hid (Box (w2.heap.size) [.int .i64 a0, .slice wA1 (n + 1) wc1, .slice wA2 0 wc2, .slice wA3 n wc3, .slice wA4 0 wc4] (w13.alloc (.cells #[.int .i64 a0, .slice hA1 (n + 1) hc1, .slice hA2 0 hc2, .slice hA3 n hc3, .slice hA4 0 hc4] 29))) := Lib.hid (Bw.out.below hb)
    replace Bg : Hid (Box (w4.heap.size) [.int .i64 a0, .slice gA1 (n + 1) gc1, .slice gA2 0 gc2, .slice gA3 n gc3, .slice gA4 0 gc4] (w13.alloc (.cells #[.int .i64 a0, .slice hA1 (n + 1) hc1, .slice hA2 0 hc2, .slice hA3 n hc3, .slice hA4 0 hc4] 29))) := Lib.hid (Bg.out.below hb)
    replace HT : Hid (Below W.heap.size W (w13.alloc (.cells #[.int .i64 a0, .slice hA1 (n + 1) hc1, .slice hA2 0 hc2, .slice hA3 n hc3, .slice hA4 0 hc4] 29))) := Lib.hid (HT.out.trans (hb.mono HT.out.size))
    replace It := Lib.hid (It.out.below hb)
    clear hb
    have Bh : Hid (Box (w13.heap.size) [.int .i64 a0, .slice hA1 (n + 1) hc1, .slice hA2 0 hc2, .slice hA3 n hc3, .slice hA4 0 hc4] (w13.alloc (.cells #[.int .i64 a0, .slice hA1 (n + 1) hc1, .slice hA2 0 hc2, .slice hA3 n hc3, .slice hA4 0 hc4] 29))) := Lib.hid (by have h1 := Box.new w13 #[.int .i64 a0, .slice hA1 (n + 1) hc1, .slice hA2 0 hc2, .slice hA3 n hc3, .slice hA4 0 hc4] 29; (try simp only [World.size_alloc] at h1); exact h1)
    clear It
    obtain ⟨zh0, zh1, zh2, zh3, zh4⟩ := Bh.out.c5
    obtain ⟨zw0, zw1, zw2, zw3, zw4⟩ := Bw.out.c5
    go_wp2_with fail
    refine (eqVat a0 N1 hA1 (n + 1) hc1 [] hA2 0 hc2 N3 hA3 n hc3 [] hA4 0 hc4 wA1 wc1 wA2 wc2 wA3 wc3 wA4 wc4 _ (liesVat1 Hh.out) (liesVat1 Hw.out) htN1 (by omega) (liesVat2 Hh.out) (liesVat2 Hw.out) (fun x h => by cases h) (by omega) (liesVat3 Hh.out) (liesVat3 Hw.out) htN3 (by omega) (liesVat4 Hh.out) (liesVat4 Hw.out) (fun x h => by cases h) (by omega)).mono ?_
    rintro e w14 ⟨rfl, hb⟩
    clear zh0 zh1 zh2 zh3 zh4
    clear zw0 zw1 zw2 zw3 zw4
    replace Hw : Hid (Owns w14 (.r [.i a0, .l N1, .l [], .l N3, .l []]) [.int .i64 a0, .slice wA1 (n + 1) wc1, .slice wA2 0 wc2, .slice wA3 n wc3, .slice wA4 0 wc4] (rng (w1.heap.size) (w2.heap.size))) := Lib.hid (Hw.out.below hb)
    replace Hg : Hid (Owns w14 (.r [.i a0, .l (mkAll N1 (1)), .l (mkAll [] (1 + cntAll N1)), .l (mkAll N3 (1 + cntAll N1 + cntAll [])), .l (mkAll [] (1 + cntAll N1 + cntAll [] + cntAll N3))]) [.int .i64 a0, .slice gA1 (n + 1) gc1, .slice gA2 0 gc2, .slice gA3 n gc3, .slice gA4 0 gc4] (rng (w3.heap.size) (w4.heap.size))) := Lib.hid (Hg.out.below hb)
    replace Hh : Hid (Owns w14 (.r [.i a0, .l N1, .l [], .l N3, .l []]) [.int .i64 a0, .slice hA1 (n + 1) hc1, .slice hA2 0 hc2, .slice hA3 n hc3, .slice hA4 0 hc4] (rng (w12.heap.size) (w13.heap.size))) := Lib.hid (Hh.out.below hb)
    replace Bw : Hid (Box (w2.heap.size) [.int .i64 a0, .slice wA1 (n + 1) wc1, .slice wA2 0 wc2, .slice wA3 n wc3, .slice wA4 0 wc4] w14) := Lib.hid (Bw.out.below hb)
    replace Bg : Hid (Box (w4.heap.size) [.int .i64 a0, .slice gA1 (n + 1) gc1, .slice gA2 0 gc2, .slice gA3 n gc3, .slice gA4 0 gc4] w14) := Lib.hid (Bg.out.below hb)
    replace Bh : Hid (Box (w13.heap.size) [.int .i64 a0, .slice hA1 (n + 1) hc1, .slice hA2 0 hc2, .slice hA3 n hc3, .slice hA4 0 hc4] w14) := Lib.hid (Bh.out.below hb)
    replace HT : Hid (Below W.heap.size W w14) := Lib.hid (HT.out.trans (hb.mono HT.out.size))
    have hsw14 : w13.heap.size + 1 ≤ w14.heap.size := (by have h1 := hb.size; (try simp only [World.size_alloc, World.size_drew] at h1); exact h1)
    clear hb
    obtain ⟨zg0, zg1, zg2, zg3, zg4⟩ := Bg.out.c5
    go_wp2_with fail
    refine (heldRVat a0 N1 gA1 (n + 1) gc1 [] gA2 0 gc2 N3 gA3 n gc3 [] gA4 0 gc4 (1) _ (liesVat1 Hg.out) (liesVat2 Hg.out) (liesVat3 Hg.out) (liesVat4 Hg.out) htN1 (by omega) (fun x h => by cases h) (by omega) htN3 (by omega) (fun x h => by cases h) (by omega) (by omega) (by omega)).mono ?_
    rintro e w15 ⟨rfl, hb⟩
    clear zg0 zg1 zg2 zg3 zg4
    replace Hw : Hid (Owns w15 (.r [.i a0, .l N1, .l [], .l N3, .l []]) [.int .i64 a0, .slice wA1 (n + 1) wc1, .slice wA2 0 wc2, .slice wA3 n wc3, .slice wA4 0 wc4] (rng (w1.heap.size) (w2.heap.size))) := Lib.hid (Hw.out.below hb)
    replace Hg : Hid (Owns w15 (.r [.i a0, .l (mkAll N1 (1)), .l (mkAll [] (1 + cntAll N1)), .l (mkAll N3 (1 + cntAll N1 + cntAll [])), .l (mkAll [] (1 + cntAll N1 + cntAll [] + cntAll N3))]) [.int .i64 a0, .slice gA1 (n + 1) gc1, .slice gA2 0 gc2, .slice gA3 n gc3, .slice gA4 0 gc4] (rng (w3.heap.size) (w4.heap.size))) := Lib.hid (Hg.out.below hb)
    replace Hh : Hid (Owns w15 (.r [.i a0, .l N1, .l [], .l N3, .l []]) [.int .i64 a0, .slice hA1 (n + 1) hc1, .slice hA2 0 hc2, .slice hA3 n hc3, .slice hA4 0 hc4] (rng (w12.heap.size) (w13.heap.size))) := Lib.hid (Hh.out.below hb)
    replace Bw : Hid (Box (w2.heap.size) [.int .i64 a0, .slice wA1 (n + 1) wc1, .slice wA2 0 wc2, .slice wA3 n wc3, .slice wA4 0 wc4] w15) := Lib.hid (Bw.out.below hb)
    replace Bg : Hid (Box (w4.heap.size) [.int .i64 a0, .slice gA1 (n + 1) gc1, .slice gA2 0 gc2, .slice gA3 n gc3, .slice gA4 0 gc4] w15) := Lib.hid (Bg.out.below hb)
    replace Bh : Hid (Box (w13.heap.size) [.int .i64 a0, .slice hA1 (n + 1) hc1, .slice hA2 0 hc2, .slice hA3 n hc3, .slice hA4 0 hc4] w15) := Lib.hid (Bh.out.below hb)
    replace HT : Hid (Below W.heap.size W w15) := Lib.hid (HT.out.trans (hb.mono HT.out.size))
    have hsw15 : w14.heap.size ≤ w15.heap.size := (by have h1 := hb.size; (try simp only [World.size_alloc, World.size_drew] at h1); exact h1)
    clear hb
    go_wp2_with fail
    go_ret
    exact GivesBool.ret HT.out
  · go_enter Try.func4, Try.ntmps4
    go_wp2_with fail
    go_ret
    exact GivesBool.ret (Below.refl _ _)
theorem open_nums {H : Type} {enc : TypeId × Value → H} {W : World} {T E : TypeId} {v : Value} {d : DataW H} {p : List MemPlace} (ht : Try.prog.underlying T = some (.slice E)) (he : Try.prog.underlying E = some (.int .i64)) (hce : Try.prog.cellsOf E = 1)
    (h : DataW.Trod enc Try.prog W 0 (fun _ => true) true T v d p) (hv : v.cells.toList = [v]) (hlt : ∀ x ∈ p, x.block < W.heap.size) : ∃ A n c, v = .slice A n c ∧ Nums W A n := by
  obtain ⟨fuel, hf⟩ := h
  rw [hv] at hf
  rcases ChangeShapes.open_ints ht he hce hf with ⟨hcs, -⟩ | ⟨a, len, cap, zs, hcs, -, hl, hm, hz, hx, hcell, hwf⟩
  · exact ⟨none, 0, 0, by simpa using hcs, [], Rz.nil, fun z hz => by cases hz⟩
  · simp only [if_true] at hz
    refine ⟨some a, len, cap, by simpa using hcs, zs.take len, ⟨by simp; omega, ?_⟩, ?_⟩
    · by_cases h0 : len = 0
      · left; subst h0; simp
      · right
        have hsp : a.spot = none := by simpa [Addr.add] using World.cell?_spot (hcell 0 (by omega))
        obtain ⟨b, off, spot⟩ := a
        simp only at hsp
        subst hsp
        refine ⟨b, off, rfl, ?_, fun j u hj => ?_⟩
        · have := hlt (.cell b off) (by
            have e := congrArg Prod.snd hx
            simp only at e
            rw [e]
            exact MemPlace.mem_row.2 ⟨0, by omega, by simp⟩)
          exact this
        · have hjl : j < len := by
            have := (List.getElem?_eq_some_iff.1 hj).1
            simp at this
            omega
          have hc := hcell j (by omega)
          rw [Addr.add_lit] at hc
          rw [hc]
          have hjz : j < zs.length := by omega
          simp [hjl, List.getElem?_eq_getElem hjz] at hj
          subst hj
          simp [List.getD, List.getElem?_eq_getElem hjz]
    · intro z hzm
      have := hwf z (List.mem_of_mem_take hzm)
      have e1 : IntKind.i64.min = -9223372036854775808 := rfl
      have e2 : IntKind.i64.max = 9223372036854775807 := rfl
      simp [Lit.wf, e1, e2] at this
      omega
end Go.Proofs.Ytmeacgpebpfpbaa
end
section
namespace Go.Proofs.Ytmeacgpebpfpbaa.fnExactNewVat
open Go.ChangeShapes Go.WideShapes Go.ChangeAt Go.RowKit
open Go.ChangeMaps (open_string)
set_option linter.unusedVariables false

theorem own : ownKnob Try.prog.godebug = none := by kernel_rfl
theorem laidOut : laidOutB Try.prog = true := by kernel_rfl

set_option maxRecDepth 100000 in
theorem contract (H : Type) (enc : TypeId × Value → H) (W : World) (base : Nat) (args : Array Value) (ds gs : List (DataW H)) (before : List MemPlace)
    (hval : ∀ (j : Nat) t v, Try.f4.params[j]? = some t → args[j]? = some v → Value.okWide Try.prog W .any base t v)
    (hW : DataW.Whole enc Try.prog Try.f4.params.toList Rows.fnExactNewVatSpec.vars false W args.toList ds gs before)
    (hsz0 : (DataW.weightsEach Try.prog (Try.f4.params.toList ++ Rows.fnExactNewVatSpec.plain.varTypes Try.prog) (ds ++ gs)).all (· ≤ reachBytes) = true) :
    Calls Try.prog 4 args W fun e W' => ∃ v, e = .returned v ∧ Rows.fnExactNewVatSpec.post enc Try.prog Try.f4 false true false false W args v W' := by
  have hW' := hW
  obtain ⟨p, q, hA0, hV, rfl, hfz, hnd⟩ := hW
  have hA : DataW.TrodAll enc Try.prog W 0 (fun _ => true) true Try.f4.params.toList args.toList ds p := hA0
  have hsz := hsz0
  clear hsz0
  rw [Try.params4] at hA hval hsz
  obtain ⟨v0, vs0, d0, ds0, p0, q0, hargs, rfl, rfl, h0, r0⟩ := trodAll_cons hA
  obtain ⟨v1, vs1, d1, ds1, p1, q1, rfl, rfl, rfl, h1, r1⟩ := trodAll_cons r0
  obtain ⟨v2, vs2, d2, ds2, p2, q2, rfl, rfl, rfl, h2, r2⟩ := trodAll_cons r1
  obtain ⟨rfl, rfl, rfl⟩ := trodAll_nil r2
  obtain rfl : args = #[v0, v1, v2] := by cases args; simp_all
  obtain ⟨rfl, rfl⟩ := trodVars_none hV
  obtain ⟨a0, rfl, rfl, rfl, wf0⟩ := open_int Try.underlying3 (hval 0 3 v0 rfl rfl) h0
  obtain ⟨A1, n1, c1, rfl, hN1⟩ := open_nums Try.underlying43 Try.underlying3 (by kernel_rfl) h1 (by obtain ⟨_, _, _, rfl⟩ := okWide_slice Try.underlying43 (hval 1 43 v1 rfl rfl); rfl) (fun x hx => hW'.lt x (by simp [hx]))
  obtain ⟨a2, rfl, rfl, rfl, wf2⟩ := open_int Try.underlying3 (hval 2 3 v2 rfl rfl) h2
  refine (law_NewVat a0 A1 n1 c1 a2 W hN1 (wf64 wf2)).mono fun e W' ⟨he, hb⟩ => ?_
  subst he
  exact ⟨_, rfl, law_post laidOut (by kernel_rfl) (t := 4) (by kernel_rfl) Try.underlying4 rfl rfl rfl rfl hW' hb⟩

theorem laid_met (os : Os) : laidMetH Try.prog Rows.fnExactNewVatRow.laid ((World.holding Try.prog os ⟨#[], #[], []⟩).forCall (fun _ _ => 0) ⟨#[], #[.int .i64 0, .slice none 0 0, .int .i64 0], []⟩).memory :=
  laidMetH_nil _ _
theorem reads (os : Os) {H : Type} (enc : TypeId × Value → H) : ∃ places, DataW.whole enc Try.prog ((World.holding Try.prog os ⟨#[], #[], []⟩).forCall (fun _ _ => 0) ⟨#[], #[.int .i64 0, .slice none 0 0, .int .i64 0], []⟩).memory Try.f4.params.toList Rows.fnExactNewVatSpec.vars false (#[.int .i64 0, .slice none 0 0, .int .i64 0] : Array Value).toList 8 = some ([.lit (.int .i64 0), .nil, .lit (.int .i64 0)], [], places) :=
  ⟨[], by kernel_rfl⟩

set_option maxRecDepth 100000 in
theorem lifted (os : Os) (started : os.Started) (H : Type) (enc : TypeId × Value → H) (F : Stop.Interp) :
    ReturnsInHanded {} Try.checked os 4 .any ((OpenSpec.ofChange Rows.fnExactNewVatSpec).preRow enc Try.prog Try.f4 Rows.fnExactNewVatRow.domain false Rows.fnExactNewVatRow.laid) (((OpenSpec.ofChange Rows.fnExactNewVatSpec).at F).post enc Try.prog Try.f4 false true false false) := by
  obtain ⟨places, hx⟩ := reads os enc
  refine returnsInHanded_of_row (C := Try.checked) (s := (OpenSpec.ofChange Rows.fnExactNewVatSpec)) own started (by kernel_rfl) Try.func4
    (witness_row_at (enc := enc) (C := Try.checked) false (World.holding Try.prog os ⟨#[], #[], []⟩) #[.int .i64 0, .slice none 0 0, .int .i64 0] rfl (by kernel_rfl) (by kernel_rfl) (by kernel_rfl)
      (OpenSpec.preRow_of_cond 8 hx (by kernel_rfl) (fun k hk => by cases hk) (by kernel_rfl) (laid_met os))) ?_
  intro W base args ds gs before hval hW _ hcond hsz hL _ _
  exact contract H enc W base args ds gs before hval hW hsz

theorem said : Rows.FnExactNewVatSaid :=
  OpenClaim.holds_of_cond 4 Try.f4 rfl rfl rfl rfl rfl rfl rfl ⟨rfl, rfl, rfl, rfl, rfl⟩ rfl rfl rfl rfl rfl (by kernel_rfl) Try.func4 (by kernel_rfl)
    (of_decide_eq_true (by kernel_rfl)) (by unfold Func.isWrapper; first | (rw [if_pos (by decide +kernel)]; kernel_rfl) | (rw [if_neg (by decide +kernel)]; exact ⟨rfl, rfl⟩))
    (fun os started H enc _ F => by rw [OpenClaim.pre_eq_preRow]; exact lifted os started H enc F)
theorem proved : Rows.FnExactNewVatSaid := said
#print axioms proved
end Go.Proofs.Ytmeacgpebpfpbaa.fnExactNewVat
end
