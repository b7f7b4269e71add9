/- Chapter 12: Look, the reference's. -/
import Derived.Test.YtmeacgpebpfpbaaLokB
import Derived.Test.YtmeacgpebpfpbaaPendE
import Derived.Test.YtmeacgpebpfpbaaSpecV
import Derived.Deep.RegionHeld3
import Derived.Deep.RegionLaw
import Derived.Deep.Cut
import Derived.Deep.CutRange
import Derived.LoopTactic
import Derived.Lib.Hide
import Derived.Deep.QuietTactic
import Derived.BigQuiet
import Derived.Deep.RegionWith
import Derived.Handy
namespace Go.Proofs.Ytmeacgpebpfpbaa
open Go.RowKit
set_option linter.unusedVariables false
set_option linter.unusedSimpArgs false
set_option maxRecDepth 100000 in
set_option maxHeartbeats 16000000 in
theorem specLook (f0 : Int) (L1 : List Dat) (A1 : Option Addr) (n1 c1 : Nat) (L2 : List Dat) (A2 : Option Addr) (n2 c2 : Nat) (L3 : List Dat) (A3 : Option Addr) (n3 c3 : Nat) (L4 : List Dat) (A4 : Option Addr) (n4 c4 : Nat) (k n : Int) (w : World) (hl1 : Lies w (.l L1) [.slice A1 n1 c1]) (ht1 : ∀ x ∈ L1, Has tyEntity x) (hn1 : n1 ≤ 549755813888) :
    Calls Try.prog 13 #[.agg #[.int .i64 f0, .slice A1 n1 c1, .slice A2 n2 c2, .slice A3 n3 c3, .slice A4 n4 c4], .agg #[.int .i64 k, .int .i64 n]] w (GivesV (lookD L1 ⟨k, n⟩) w) := by
  obtain ⟨v, hv⟩ : ∃ v, lookD L1 ⟨k, n⟩ = v := ⟨_, rfl⟩
  rw [hv]
  have HC := Lib.hid hl1.count
  have H := Lib.hid hl1
  have HT := Lib.hid ht1
  have HV : Hid (lookF L1 (n1 + 1) ⟨k, n⟩ = v) := Lib.hid (by rw [← hv, lookD, HC.out])
  clear hv hl1 ht1
  have X := Lib.hid (LkB.start w #[.int .i64 f0, .slice A1 n1 c1, .slice A2 n2 c2, .slice A3 n3 c3, .slice A4 n4 c4] #[.int .i64 k, .int .i64 n])
  go_enter Try.func13, Try.ntmps13
  obtain ⟨z0, z1, z2, z3, z4⟩ := X.out.2.1.c5
  obtain ⟨y0, y1, fy⟩ := X.out.2.2.1.d2
  obtain ⟨q0, q1, fq⟩ := X.out.2.2.2.1.d2
  go_wp2_with fail
  clear z0 z1 z2 z3 z4 y0 y1 fy q0 q1 fq
  go_loopw [5] (fun iv wr => ∃ (i : Nat) (k n : Int), i ≤ n1 + 1 ∧ iv = .int .i64 i ∧ lookF L1 (n1 + 1 - i) ⟨k, n⟩ = v ∧ LkB w [.int .i64 f0, .slice A1 n1 c1, .slice A2 n2 c2, .slice A3 n3 c3, .slice A4 n4 c4] [.int .i64 k, .int .i64 n] wr) (fun iv _ => n1 + 1 - (intOf iv).toNat)
  case atStart => exact ⟨0, k, n, Nat.zero_le _, rfl, HV.out, X.out⟩
  case round =>
    clear HV X
    skip
    obtain ⟨i, k, n, hin, rfl, hL, hX⟩ := hrel
    have HL := Lib.hid hL
    have X := Lib.hid hX
    clear hL hX
    obtain ⟨z0, z1, z2, z3, z4⟩ := X.out.2.1.c5
    obtain ⟨y0, y1, fy⟩ := X.out.2.2.1.d2
    obtain ⟨q0, q1, fq⟩ := X.out.2.2.2.1.d2
    have hsz := X.out.2.2.2.2
    by_cases hlt : i < n1 + 1
    · have hi1 : (i : Int) < (n1 : Int) + 1 := by omega
      have hi2 : (i : Int) ≤ (n1 : Int) := by omega
      by_cases h : k = 1 ∧ 0 ≤ n ∧ n < n1
      · obtain ⟨rfl, h0, h1⟩ := h
        obtain ⟨j, rfl⟩ : ∃ j : Nat, n = j := ⟨n.toNat, by omega⟩
        have hj : j < n1 := by omega
        have hj0 : (0 : Int) ≤ j := by omega
        have hj1 : (j : Int) < n1 := by omega
        obtain ⟨b, off, d, xs, rfl, hbw, hzi, hlie, hlen, hcell⟩ := (H.out.below X.out.1).elem (fun x hx => (HT.out x hx).width) hj
        obtain ⟨g0, g1, M2, D2, m2, j2, g3, g4_0, g4_1, M5, D5, m5, j5, M6, D6, m6, j6, g7, g8, g9, g10, rfl, rfl, -, -, -, -, -, -, -, -, -⟩ := invEntity (HT.out d (List.mem_of_getElem? hzi)) hlie
        have r0 : wr.cell? ⟨b, off + j * 12, none⟩ = some (.int .i64 g0) := hcell 0 _ rfl
        have r1 : wr.cell? ⟨b, off + j * 12 + 1, none⟩ = some (.int .i64 g1) := hcell 1 _ rfl
        have r2 : wr.cell? ⟨b, off + j * 12 + 2, none⟩ = some (.slice D2 m2 j2) := hcell 2 _ rfl
        have r3 : wr.cell? ⟨b, off + j * 12 + 3, none⟩ = some (.int .i64 g3) := hcell 3 _ rfl
        have r4 : wr.cell? ⟨b, off + j * 12 + 4, none⟩ = some (.int .i64 g4_0) := hcell 4 _ rfl
        have r5 : wr.cell? ⟨b, off + j * 12 + 5, none⟩ = some (.int .i64 g4_1) := hcell 5 _ rfl
        have r6 : wr.cell? ⟨b, off + j * 12 + 6, none⟩ = some (.slice D5 m5 j5) := hcell 6 _ rfl
        have r7 : wr.cell? ⟨b, off + j * 12 + 7, none⟩ = some (.slice D6 m6 j6) := hcell 7 _ rfl
        have r8 : wr.cell? ⟨b, off + j * 12 + 8, none⟩ = some (.int .i64 g7) := hcell 8 _ rfl
        have r9 : wr.cell? ⟨b, off + j * 12 + 9, none⟩ = some (.int .i64 g8) := hcell 9 _ rfl
        have r10 : wr.cell? ⟨b, off + j * 12 + 10, none⟩ = some (.int .i64 g9) := hcell 10 _ rfl
        have r11 : wr.cell? ⟨b, off + j * 12 + 11, none⟩ = some (.int .i64 g10) := hcell 11 _ rfl
        have HS := Lib.hid (stepL_in HC.out hj hzi)
        have HBW := Lib.hid hbw
        clear hzi hcell hlie hlen
        have HD : Hid (decide (0 ≤ (j : Int) ∧ (j : Int) ≤ (n1 : Int) - 1) = true) := Lib.hid (decide_eq_true ⟨by omega, by omega⟩)
        have A0 := fun o => (X.out.below ((Below.refl _ _).alloc (Nat.le_refl _) o)).2.2.1.d2.1
        have A1 := fun o => (X.out.below ((Below.refl _ _).alloc (Nat.le_refl _) o)).2.2.1.d2.2.1
        have A2 := fun o j => (X.out.below ((Below.refl _ _).alloc (Nat.le_refl _) o)).2.2.1.d2.2.2 j
        have G0 := fun o => (X.out.below ((Below.refl _ _).alloc (Nat.le_refl _) o)).2.2.2.1.d2.1
        have G1 := fun o => (X.out.below ((Below.refl _ _).alloc (Nat.le_refl _) o)).2.2.2.1.d2.2.1
        have G2 := fun o j => (X.out.below ((Below.refl _ _).alloc (Nat.le_refl _) o)).2.2.2.1.d2.2.2 j
        by_cases e0 : g0 = 2
        · subst e0
          by_cases e3 : g3 = 2
          · subst e3
            have HN : Hid (lookF L1 (n1 + 1 - (i + 1)) ⟨g4_0, g4_1⟩ = v) := Lib.hid (by rw [← HL.out, show n1 + 1 - i = (n1 - i) + 1 by omega, lookF_some HS.out, show n1 + 1 - (i + 1) = n1 - i by omega]; rfl)
            go_wp2_with fail
            refine (specInB _ _ _ _).mono ?_
            rintro e w1 ⟨rfl, rfl⟩
            rw [HD.out]
            go_wp2_with fail
            replace X := Lib.hid (X.out.below ((Below.refl _ _).alloc (Nat.le_refl _) (.cells #[.int .i64 2, .int .i64 g1, .slice D2 m2 j2, .int .i64 2, .int .i64 g4_0, .int .i64 g4_1, .slice D5 m5 j5, .slice D6 m6 j6, .int .i64 g7, .int .i64 g8, .int .i64 g9, .int .i64 g10] 38)))
            go_roundw
            case rel => exact ⟨i + 1, g4_0, g4_1, by omega, by go_num, HN.out, (X.out.put 0 _).put 1 _⟩
            case measure => (simp [intOf]; omega)
          · have f3 : (g3 == 2) = false := by simpa using e3
            have f3' : (g3 != 2) = true := by simpa using e3
            have HE : Hid ((⟨1, j⟩ : V) = v) := Lib.hid (by rw [← HL.out, show n1 + 1 - i = (n1 - i) + 1 by omega]; exact (lookF_none (HS.out.trans (by simp [keptE, fld, e3])) _).symm)
            go_wp2_with fail
            refine (specInB _ _ _ _).mono ?_
            rintro e w1 ⟨rfl, rfl⟩
            rw [HD.out]
            go_wp2_with fail
            replace X := Lib.hid (X.out.below ((Below.refl _ _).alloc (Nat.le_refl _) (.cells #[.int .i64 2, .int .i64 g1, .slice D2 m2 j2, .int .i64 g3, .int .i64 g4_0, .int .i64 g4_1, .slice D5 m5 j5, .slice D6 m6 j6, .int .i64 g7, .int .i64 g8, .int .i64 g9, .int .i64 g10] 38)))
            refine bodyPost_ret (v := .agg #[.int .i64 1, .int .i64 j]) ?hres rfl ?hpost
            case hres => exact results_box rfl _ _ (w.heap.size + 1 + 1) [.int .i64 1, .int .i64 j] _ rfl (X.out.fin _ _).1.1 Try.underlying31 rfl (by kernel_rfl)
            case hpost => exact GivesV.ret (congrArg V.kind HE.out) (congrArg V.n HE.out) (X.out.fin _ _).2
        · have f0' : (g0 == 2) = false := by simpa using e0
          have f0'' : (g0 != 2) = true := by simpa using e0
          have HE : Hid ((⟨1, j⟩ : V) = v) := Lib.hid (by rw [← HL.out, show n1 + 1 - i = (n1 - i) + 1 by omega]; exact (lookF_none (HS.out.trans (by simp [keptE, fld, e0])) _).symm)
          go_wp2_with fail
          refine (specInB _ _ _ _).mono ?_
          rintro e w1 ⟨rfl, rfl⟩
          rw [HD.out]
          go_wp2_with fail
          replace X := Lib.hid (X.out.below ((Below.refl _ _).alloc (Nat.le_refl _) (.cells #[.int .i64 g0, .int .i64 g1, .slice D2 m2 j2, .int .i64 g3, .int .i64 g4_0, .int .i64 g4_1, .slice D5 m5 j5, .slice D6 m6 j6, .int .i64 g7, .int .i64 g8, .int .i64 g9, .int .i64 g10] 38)))
          refine bodyPost_ret (v := .agg #[.int .i64 1, .int .i64 j]) ?hres rfl ?hpost
          case hres => exact results_box rfl _ _ (w.heap.size + 1 + 1) [.int .i64 1, .int .i64 j] _ rfl (X.out.fin _ _).1.1 Try.underlying31 rfl (by kernel_rfl)
          case hpost => exact GivesV.ret (congrArg V.kind HE.out) (congrArg V.n HE.out) (X.out.fin _ _).2
      · have HS := Lib.hid (stepL_out HC.out h)
        have HE : Hid ((⟨k, n⟩ : V) = v) := Lib.hid (by rw [← HL.out, show n1 + 1 - i = (n1 - i) + 1 by omega]; exact (lookF_none HS.out _).symm)
        by_cases hk : k = 1
        · subst hk
          have HD : Hid (decide (0 ≤ n ∧ n ≤ (n1 : Int) - 1) = false) := Lib.hid (decide_eq_false (fun h9 => h ⟨rfl, by omega, by omega⟩))
          clear h
          go_wp2_with fail
          refine (specInB _ _ _ _).mono ?_
          rintro e w1 ⟨rfl, rfl⟩
          rw [HD.out]
          go_wp2_with fail
          refine bodyPost_ret (v := .agg #[.int .i64 1, .int .i64 n]) ?hres rfl ?hpost
          case hres => exact results_box rfl _ _ (w.heap.size + 1 + 1) [.int .i64 1, .int .i64 n] _ rfl (X.out.fin _ _).1.1 Try.underlying31 rfl (by kernel_rfl)
          case hpost => exact GivesV.ret (congrArg V.kind HE.out) (congrArg V.n HE.out) (X.out.fin _ _).2
        · have hk1 : (k == 1) = false := by simpa using hk
          have hk2 : (k != 1) = true := by simpa using hk
          clear h
          go_wp2_with fail
          refine bodyPost_ret (v := .agg #[.int .i64 k, .int .i64 n]) ?hres rfl ?hpost
          case hres => exact results_box rfl _ _ (w.heap.size + 1 + 1) [.int .i64 k, .int .i64 n] _ rfl (X.out.fin _ _).1.1 Try.underlying31 rfl (by kernel_rfl)
          case hpost => exact GivesV.ret (congrArg V.kind HE.out) (congrArg V.n HE.out) (X.out.fin _ _).2
    · have hn : i = n1 + 1 := by omega
      have HE : Hid ((⟨2, 0⟩ : V) = v) := Lib.hid (by rw [← HL.out, hn, Nat.sub_self, lookF])
      have hi1 : ¬ (i : Int) < (n1 : Int) + 1 := by omega
      have hi2 : ¬ (i : Int) ≤ (n1 : Int) := by omega
      clear hn
      go_wp2_with fail
      refine (specBroV _).mono ?_
      rintro e w1 ⟨rfl, hb⟩
      replace X := Lib.hid (X.out.below hb)
      clear hb
      clear z0 z1 z2 z3 z4 y0 y1 fy q0 q1 fq
      obtain ⟨z0, z1, z2, z3, z4⟩ := X.out.2.1.c5
      obtain ⟨y0, y1, fy⟩ := X.out.2.2.1.d2
      obtain ⟨q0, q1, fq⟩ := X.out.2.2.2.1.d2
      go_wp2_with fail
      refine bodyPost_ret (v := .agg #[.int .i64 2, .int .i64 0]) ?hres rfl ?hpost
      case hres => exact results_box rfl _ _ (w.heap.size + 1 + 1) [.int .i64 2, .int .i64 0] _ rfl (X.out.fin _ _).1.1 Try.underlying31 rfl (by kernel_rfl)
      case hpost => exact GivesV.ret (congrArg V.kind HE.out) (congrArg V.n HE.out) (X.out.fin _ _).2
end Go.Proofs.Ytmeacgpebpfpbaa
