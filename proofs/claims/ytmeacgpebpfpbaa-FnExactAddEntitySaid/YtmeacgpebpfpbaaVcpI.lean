/- Chapter 12: a vat's copy, the program's. -/
import Derived.Test.YtmeacgpebpfpbaaVatX
import Derived.Test.YtmeacgpebpfpbaaMzCopS
import Derived.Test.YtmeacgpebpfpbaaMzLnkC
import Derived.Test.YtmeacgpebpfpbaaMzCopM
import Derived.Deep.RegionHeld3
import Derived.Deep.RegionLaw
import Derived.Deep.Cut
import Derived.Deep.CutRange
import Derived.LoopTactic
import Derived.Lib.Hide
import Derived.Deep.QuietTactic
import Derived.BigQuiet
import Derived.Deep.RegionWith
import Derived.Handy
namespace Go.Proofs.Ytmeacgpebpfpbaa
open Go.RowKit
set_option linter.unusedVariables false
set_option linter.unusedSimpArgs false
set_option maxRecDepth 100000 in
set_option maxHeartbeats 16000000 in
theorem implCopV (f0 : Int) (L1 : List Dat) (A1 : Option Addr) (n1 c1 : Nat) (L2 : List Dat) (A2 : Option Addr) (n2 c2 : Nat) (L3 : List Dat) (A3 : Option Addr) (n3 c3 : Nat) (L4 : List Dat) (A4 : Option Addr) (n4 c4 : Nat) (w : World) (hl1 : Lies w (.l L1) [.slice A1 n1 c1]) (ht1 : ∀ x ∈ L1, Has tyEntity x) (hq1 : (Dat.l L1).bulk ≤ 549755813888) (hl2 : Lies w (.l L2) [.slice A2 n2 c2]) (ht2 : ∀ x ∈ L2, Has tySent x) (hq2 : (Dat.l L2).bulk ≤ 549755813888) (hl3 : Lies w (.l L3) [.slice A3 n3 c3]) (ht3 : ∀ x ∈ L3, Has tyLink x) (hq3 : (Dat.l L3).bulk ≤ 549755813888) (hl4 : Lies w (.l L4) [.slice A4 n4 c4]) (ht4 : ∀ x ∈ L4, Has tyOutgoing x) (hq4 : (Dat.l L4).bulk ≤ 549755813888) :
    Calls Try.prog 54 #[.agg #[.int .i64 f0, .slice A1 n1 c1, .slice A2 n2 c2, .slice A3 n3 c3, .slice A4 n4 c4]] w (GivesVt f0 L1 n1 L2 n2 L3 n3 L4 n4 w) := by
  have HL1 := Lib.hid hl1
  have HT1 := Lib.hid ht1
  have HL2 := Lib.hid hl2
  have HT2 := Lib.hid ht2
  have HL3 := Lib.hid hl3
  have HT3 := Lib.hid ht3
  have HL4 := Lib.hid hl4
  have HT4 := Lib.hid ht4
  clear hl1 ht1 hl2 ht2 hl3 ht3 hl4 ht4
  have HB : Hid (Below w.heap.size w w) := Lib.hid (Below.refl _ _)
  have Zl : Hid (Zx (w.heap.size) [.int .i64 f0, .slice A1 n1 c1, .slice A2 n2 c2, .slice A3 n3 c3, .slice A4 n4 c4] (w.alloc (.cells #[.int .i64 f0, .slice A1 n1 c1, .slice A2 n2 c2, .slice A3 n3 c3, .slice A4 n4 c4] 29))) := Lib.hid (Zx.new _ _ _)
  replace HB : Hid (Below w.heap.size w (w.alloc (.cells #[.int .i64 f0, .slice A1 n1 c1, .slice A2 n2 c2, .slice A3 n3 c3, .slice A4 n4 c4] 29))) := Lib.hid (HB.out.alloc HB.out.size _)
  replace Zl : Hid (Zx (w.heap.size) [.int .i64 f0, .slice A1 n1 c1, .slice A2 n2 c2, .slice A3 n3 c3, .slice A4 n4 c4] ((w.alloc (.cells #[.int .i64 f0, .slice A1 n1 c1, .slice A2 n2 c2, .slice A3 n3 c3, .slice A4 n4 c4] 29)).alloc (.cells #[.int .i64 0, .slice none 0 0, .slice none 0 0, .slice none 0 0, .slice none 0 0] 29))) := Lib.hid (Zl.out.below ((Below.refl _ _).alloc (Nat.le_refl _) _))
  have Zr : Hid (Zx (w.heap.size + 1) [.int .i64 0, .slice none 0 0, .slice none 0 0, .slice none 0 0, .slice none 0 0] ((w.alloc (.cells #[.int .i64 f0, .slice A1 n1 c1, .slice A2 n2 c2, .slice A3 n3 c3, .slice A4 n4 c4] 29)).alloc (.cells #[.int .i64 0, .slice none 0 0, .slice none 0 0, .slice none 0 0, .slice none 0 0] 29))) := Lib.hid (by have h1 := Zx.new (w.alloc (.cells #[.int .i64 f0, .slice A1 n1 c1, .slice A2 n2 c2, .slice A3 n3 c3, .slice A4 n4 c4] 29)) #[.int .i64 0, .slice none 0 0, .slice none 0 0, .slice none 0 0, .slice none 0 0] 29; (try simp only [World.size_alloc, World.size_setCell] at h1); exact h1)
  replace HB : Hid (Below w.heap.size w ((w.alloc (.cells #[.int .i64 f0, .slice A1 n1 c1, .slice A2 n2 c2, .slice A3 n3 c3, .slice A4 n4 c4] 29)).alloc (.cells #[.int .i64 0, .slice none 0 0, .slice none 0 0, .slice none 0 0, .slice none 0 0] 29))) := Lib.hid (HB.out.alloc HB.out.size _)
  go_enter Try.func54, Try.ntmps54
  go_wp2_with fail
  refine (eachEnt L1 A1 n1 c1 _ (HL1.out.below HB.out) HT1.out hq1).mono ?_
  rintro e w1 ⟨B1, m9, k1, rfl, hO, hb⟩
  obtain rfl : n1 = m9 := by rw [← hO.lies.count, ← HL1.out.count]
  replace Zl : Hid (Zx (w.heap.size) [.int .i64 f0, .slice A1 n1 c1, .slice A2 n2 c2, .slice A3 n3 c3, .slice A4 n4 c4] w1) := Lib.hid (Zl.out.below hb)
  replace Zr : Hid (Zx (w.heap.size + 1) [.int .i64 0, .slice none 0 0, .slice none 0 0, .slice none 0 0, .slice none 0 0] w1) := Lib.hid (Zr.out.below hb)
  replace HB : Hid (Below w.heap.size w w1) := Lib.hid (HB.out.trans (hb.mono HB.out.size))
  have hsw1 : w.heap.size + 1 + 1 ≤ w1.heap.size := (by have h1 := hb.size; (try simp only [World.size_alloc, World.size_setCell] at h1); exact h1)
  have O1 : Hid (Hold 38 12 w1 B1 n1 k1 L1 (rng (w.heap.size + 1 + 1) (w1.heap.size))) := Lib.hid (by have h1 := hO; (try simp only [World.size_alloc, World.size_setCell] at h1); exact h1)
  clear hO hb
  obtain ⟨zl0, zl1, zl2, zl3, zl4, fl⟩ := Zl.out.d5
  obtain ⟨zr0, zr1, zr2, zr3, zr4, fr⟩ := Zr.out.d5
  go_wp2_with fail
  replace Zr : Hid (Zx (w.heap.size + 1) [.int .i64 0, .slice none 0 0, .slice none 0 0, .slice none 0 0, .slice none 0 0] (w1.setCell ⟨w.heap.size, 1, none⟩ (.slice B1 n1 k1))) := Lib.hid (Zr.out.far (by have h1 := HB.out.size; omega))
  replace Zl : Hid (Zx (w.heap.size) [.int .i64 f0, .slice B1 n1 k1, .slice A2 n2 c2, .slice A3 n3 c3, .slice A4 n4 c4] (w1.setCell ⟨w.heap.size, 1, none⟩ (.slice B1 n1 k1))) := Lib.hid (Zl.out.put 1 _)
  replace HB : Hid (Below w.heap.size w (w1.setCell ⟨w.heap.size, 1, none⟩ (.slice B1 n1 k1))) := Lib.hid (HB.out.setCell (p := ⟨w.heap.size, 1, none⟩) (by show w.heap.size ≤ w.heap.size; omega) _)
  replace O1 : Hid (Hold 38 12 (w1.setCell ⟨w.heap.size, 1, none⟩ (.slice B1 n1 k1)) B1 n1 k1 L1 (rng (w.heap.size + 1 + 1) (w1.heap.size))) := Lib.hid (O1.out.touch ((Touch.refl (fun b => b = w.heap.size) _).setCell rfl _) (fun b hb e => by have h1 := hb.1; have h2 := HB.out.size; omega))
  refine (eachSent L2 A2 n2 c2 _ (HL2.out.below HB.out) HT2.out hq2).mono ?_
  rintro e w2 ⟨B2, m9, k2, rfl, hO, hb⟩
  obtain rfl : n2 = m9 := by rw [← hO.lies.count, ← HL2.out.count]
  clear zl0 zl1 zl2 zl3 zl4 fl
  clear zr0 zr1 zr2 zr3 zr4 fr
  replace Zl : Hid (Zx (w.heap.size) [.int .i64 f0, .slice B1 n1 k1, .slice A2 n2 c2, .slice A3 n3 c3, .slice A4 n4 c4] w2) := Lib.hid (Zl.out.below hb)
  replace Zr : Hid (Zx (w.heap.size + 1) [.int .i64 0, .slice none 0 0, .slice none 0 0, .slice none 0 0, .slice none 0 0] w2) := Lib.hid (Zr.out.below hb)
  replace HB : Hid (Below w.heap.size w w2) := Lib.hid (HB.out.trans (hb.mono HB.out.size))
  have hsw2 : w1.heap.size ≤ w2.heap.size := (by have h1 := hb.size; (try simp only [World.size_alloc, World.size_setCell] at h1); exact h1)
  replace O1 : Hid (Hold 38 12 w2 B1 n1 k1 L1 (rng (w.heap.size + 1 + 1) (w1.heap.size))) := Lib.hid (O1.out.below hb)
  have O2 : Hid (Hold 153 7 w2 B2 n2 k2 L2 (rng (w1.heap.size) (w2.heap.size))) := Lib.hid (by have h1 := hO; (try simp only [World.size_alloc, World.size_setCell] at h1); exact h1)
  clear hO hb
  obtain ⟨zl0, zl1, zl2, zl3, zl4, fl⟩ := Zl.out.d5
  obtain ⟨zr0, zr1, zr2, zr3, zr4, fr⟩ := Zr.out.d5
  go_wp2_with fail
  replace Zr : Hid (Zx (w.heap.size + 1) [.int .i64 0, .slice none 0 0, .slice none 0 0, .slice none 0 0, .slice none 0 0] (w2.setCell ⟨w.heap.size, 2, none⟩ (.slice B2 n2 k2))) := Lib.hid (Zr.out.far (by have h1 := HB.out.size; omega))
  replace Zl : Hid (Zx (w.heap.size) [.int .i64 f0, .slice B1 n1 k1, .slice B2 n2 k2, .slice A3 n3 c3, .slice A4 n4 c4] (w2.setCell ⟨w.heap.size, 2, none⟩ (.slice B2 n2 k2))) := Lib.hid (Zl.out.put 2 _)
  replace HB : Hid (Below w.heap.size w (w2.setCell ⟨w.heap.size, 2, none⟩ (.slice B2 n2 k2))) := Lib.hid (HB.out.setCell (p := ⟨w.heap.size, 2, none⟩) (by show w.heap.size ≤ w.heap.size; omega) _)
  replace O1 : Hid (Hold 38 12 (w2.setCell ⟨w.heap.size, 2, none⟩ (.slice B2 n2 k2)) B1 n1 k1 L1 (rng (w.heap.size + 1 + 1) (w1.heap.size))) := Lib.hid (O1.out.touch ((Touch.refl (fun b => b = w.heap.size) _).setCell rfl _) (fun b hb e => by have h1 := hb.1; have h2 := HB.out.size; omega))
  replace O2 : Hid (Hold 153 7 (w2.setCell ⟨w.heap.size, 2, none⟩ (.slice B2 n2 k2)) B2 n2 k2 L2 (rng (w1.heap.size) (w2.heap.size))) := Lib.hid (O2.out.touch ((Touch.refl (fun b => b = w.heap.size) _).setCell rfl _) (fun b hb e => by have h1 := hb.1; have h2 := HB.out.size; omega))
  refine (eachLnk L3 A3 n3 c3 _ (HL3.out.below HB.out) HT3.out hq3).mono ?_
  rintro e w3 ⟨B3, m9, k3, rfl, hO, hb⟩
  obtain rfl : n3 = m9 := by rw [← hO.lies.count, ← HL3.out.count]
  clear zl0 zl1 zl2 zl3 zl4 fl
  clear zr0 zr1 zr2 zr3 zr4 fr
  replace Zl : Hid (Zx (w.heap.size) [.int .i64 f0, .slice B1 n1 k1, .slice B2 n2 k2, .slice A3 n3 c3, .slice A4 n4 c4] w3) := Lib.hid (Zl.out.below hb)
  replace Zr : Hid (Zx (w.heap.size + 1) [.int .i64 0, .slice none 0 0, .slice none 0 0, .slice none 0 0, .slice none 0 0] w3) := Lib.hid (Zr.out.below hb)
  replace HB : Hid (Below w.heap.size w w3) := Lib.hid (HB.out.trans (hb.mono HB.out.size))
  have hsw3 : w2.heap.size ≤ w3.heap.size := (by have h1 := hb.size; (try simp only [World.size_alloc, World.size_setCell] at h1); exact h1)
  replace O1 : Hid (Hold 38 12 w3 B1 n1 k1 L1 (rng (w.heap.size + 1 + 1) (w1.heap.size))) := Lib.hid (O1.out.below hb)
  replace O2 : Hid (Hold 153 7 w3 B2 n2 k2 L2 (rng (w1.heap.size) (w2.heap.size))) := Lib.hid (O2.out.below hb)
  have O3 : Hid (Hold 97 7 w3 B3 n3 k3 L3 (rng (w2.heap.size) (w3.heap.size))) := Lib.hid (by have h1 := hO; (try simp only [World.size_alloc, World.size_setCell] at h1); exact h1)
  clear hO hb
  obtain ⟨zl0, zl1, zl2, zl3, zl4, fl⟩ := Zl.out.d5
  obtain ⟨zr0, zr1, zr2, zr3, zr4, fr⟩ := Zr.out.d5
  go_wp2_with fail
  replace Zr : Hid (Zx (w.heap.size + 1) [.int .i64 0, .slice none 0 0, .slice none 0 0, .slice none 0 0, .slice none 0 0] (w3.setCell ⟨w.heap.size, 3, none⟩ (.slice B3 n3 k3))) := Lib.hid (Zr.out.far (by have h1 := HB.out.size; omega))
  replace Zl : Hid (Zx (w.heap.size) [.int .i64 f0, .slice B1 n1 k1, .slice B2 n2 k2, .slice B3 n3 k3, .slice A4 n4 c4] (w3.setCell ⟨w.heap.size, 3, none⟩ (.slice B3 n3 k3))) := Lib.hid (Zl.out.put 3 _)
  replace HB : Hid (Below w.heap.size w (w3.setCell ⟨w.heap.size, 3, none⟩ (.slice B3 n3 k3))) := Lib.hid (HB.out.setCell (p := ⟨w.heap.size, 3, none⟩) (by show w.heap.size ≤ w.heap.size; omega) _)
  replace O1 : Hid (Hold 38 12 (w3.setCell ⟨w.heap.size, 3, none⟩ (.slice B3 n3 k3)) B1 n1 k1 L1 (rng (w.heap.size + 1 + 1) (w1.heap.size))) := Lib.hid (O1.out.touch ((Touch.refl (fun b => b = w.heap.size) _).setCell rfl _) (fun b hb e => by have h1 := hb.1; have h2 := HB.out.size; omega))
  replace O2 : Hid (Hold 153 7 (w3.setCell ⟨w.heap.size, 3, none⟩ (.slice B3 n3 k3)) B2 n2 k2 L2 (rng (w1.heap.size) (w2.heap.size))) := Lib.hid (O2.out.touch ((Touch.refl (fun b => b = w.heap.size) _).setCell rfl _) (fun b hb e => by have h1 := hb.1; have h2 := HB.out.size; omega))
  replace O3 : Hid (Hold 97 7 (w3.setCell ⟨w.heap.size, 3, none⟩ (.slice B3 n3 k3)) B3 n3 k3 L3 (rng (w2.heap.size) (w3.heap.size))) := Lib.hid (O3.out.touch ((Touch.refl (fun b => b = w.heap.size) _).setCell rfl _) (fun b hb e => by have h1 := hb.1; have h2 := HB.out.size; omega))
  refine (eachOut L4 A4 n4 c4 _ (HL4.out.below HB.out) HT4.out hq4).mono ?_
  rintro e w4 ⟨B4, m9, k4, rfl, hO, hb⟩
  obtain rfl : n4 = m9 := by rw [← hO.lies.count, ← HL4.out.count]
  clear zl0 zl1 zl2 zl3 zl4 fl
  clear zr0 zr1 zr2 zr3 zr4 fr
  replace Zl : Hid (Zx (w.heap.size) [.int .i64 f0, .slice B1 n1 k1, .slice B2 n2 k2, .slice B3 n3 k3, .slice A4 n4 c4] w4) := Lib.hid (Zl.out.below hb)
  replace Zr : Hid (Zx (w.heap.size + 1) [.int .i64 0, .slice none 0 0, .slice none 0 0, .slice none 0 0, .slice none 0 0] w4) := Lib.hid (Zr.out.below hb)
  replace HB : Hid (Below w.heap.size w w4) := Lib.hid (HB.out.trans (hb.mono HB.out.size))
  have hsw4 : w3.heap.size ≤ w4.heap.size := (by have h1 := hb.size; (try simp only [World.size_alloc, World.size_setCell] at h1); exact h1)
  replace O1 : Hid (Hold 38 12 w4 B1 n1 k1 L1 (rng (w.heap.size + 1 + 1) (w1.heap.size))) := Lib.hid (O1.out.below hb)
  replace O2 : Hid (Hold 153 7 w4 B2 n2 k2 L2 (rng (w1.heap.size) (w2.heap.size))) := Lib.hid (O2.out.below hb)
  replace O3 : Hid (Hold 97 7 w4 B3 n3 k3 L3 (rng (w2.heap.size) (w3.heap.size))) := Lib.hid (O3.out.below hb)
  have O4 : Hid (Hold 114 13 w4 B4 n4 k4 L4 (rng (w3.heap.size) (w4.heap.size))) := Lib.hid (by have h1 := hO; (try simp only [World.size_alloc, World.size_setCell] at h1); exact h1)
  clear hO hb
  obtain ⟨zl0, zl1, zl2, zl3, zl4, fl⟩ := Zl.out.d5
  obtain ⟨zr0, zr1, zr2, zr3, zr4, fr⟩ := Zr.out.d5
  go_wp2_with fail
  refine bodyPost_ret (v := .agg #[.int .i64 f0, .slice B1 n1 k1, .slice B2 n2 k2, .slice B3 n3 k3, .slice B4 n4 k4]) ?hres rfl ?hpost
  case hres => exact results_box rfl _ _ (w.heap.size + 1) [.int .i64 f0, .slice B1 n1 k1, .slice B2 n2 k2, .slice B3 n3 k3, .slice B4 n4 k4] _ rfl ((((((Zr.out.1.far (by omega) _).put 0 _).put 1 _).put 2 _).put 3 _).put 4 _) Try.underlying29 rfl (by kernel_rfl)
  case hpost =>
    have l1 : w.heap.size ≤ w.heap.size + 1 := by omega
    have l2 : w.heap.size ≤ w.heap.size := by omega
    suffices h9 : ∀ w' : World, Touch (fun b => b = w.heap.size + 1 ∨ b = w.heap.size) w4 w' → Below w.heap.size w w' → GivesVt f0 L1 n1 L2 n2 L3 n3 L4 n4 w (.returned (.agg #[.int .i64 f0, .slice B1 n1 k1, .slice B2 n2 k2, .slice B3 n3 k3, .slice B4 n4 k4])) w' from h9 _ (((((((Touch.refl (fun b => b = w.heap.size + 1 ∨ b = w.heap.size) w4).setCell (Or.inr rfl) _).setCell (Or.inl rfl) _).setCell (Or.inl rfl) _).setCell (Or.inl rfl) _).setCell (Or.inl rfl) _).setCell (Or.inl rfl) _) ((((((HB.out.setCell l2 _).setCell l1 _).setCell l1 _).setCell l1 _).setCell l1 _).setCell l1 _)
    intro w' hT9 hB9
    have hs9 := hT9.size
    exact ⟨B1, k1, B2, k2, B3, k3, B4, k4, rfl, ⟨rng (w.heap.size) (w1.heap.size), rng (w1.heap.size) (w2.heap.size), rng (w2.heap.size) (w3.heap.size), rng (w3.heap.size) (w'.heap.size), ⟨((O1.out.touch hT9 (fun b hb hS => by have h1 := hb.1; rcases hS with h | h <;> omega)).mono (fun b hb => (⟨by have h1 := hb.1; omega, by have h1 := hb.2; omega⟩ : rng (w.heap.size) (w1.heap.size) b))), ((O2.out.touch hT9 (fun b hb hS => by have h1 := hb.1; rcases hS with h | h <;> omega)).mono (fun b hb => (⟨by have h1 := hb.1; omega, by have h1 := hb.2; omega⟩ : rng (w1.heap.size) (w2.heap.size) b))), ((O3.out.touch hT9 (fun b hb hS => by have h1 := hb.1; rcases hS with h | h <;> omega)).mono (fun b hb => (⟨by have h1 := hb.1; omega, by have h1 := hb.2; omega⟩ : rng (w2.heap.size) (w3.heap.size) b))), ((O4.out.touch hT9 (fun b hb hS => by have h1 := hb.1; rcases hS with h | h <;> omega)).mono (fun b hb => (⟨by have h1 := hb.1; omega, by have h1 := hb.2; omega⟩ : rng (w3.heap.size) (w'.heap.size) b)))⟩, ⟨fun b ha hb => by have h1 := ha.2; have h2 := hb.1; omega, fun b ha hb => by have h1 := ha.2; have h2 := hb.1; omega, fun b ha hb => by have h1 := ha.2; have h2 := hb.1; omega, fun b ha hb => by have h1 := ha.2; have h2 := hb.1; omega, fun b ha hb => by have h1 := ha.2; have h2 := hb.1; omega, fun b ha hb => by have h1 := ha.2; have h2 := hb.1; omega⟩, ⟨fun b hb => ⟨by have h1 := hb.1; omega, by have h1 := hb.2; omega⟩, fun b hb => ⟨by have h1 := hb.1; omega, by have h1 := hb.2; omega⟩, fun b hb => ⟨by have h1 := hb.1; omega, by have h1 := hb.2; omega⟩, fun b hb => ⟨by have h1 := hb.1; omega, by have h1 := hb.2; omega⟩⟩⟩, hB9⟩
end Go.Proofs.Ytmeacgpebpfpbaa
