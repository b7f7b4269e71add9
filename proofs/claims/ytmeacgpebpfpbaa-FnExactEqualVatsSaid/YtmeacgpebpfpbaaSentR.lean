/- The reference's EqualSents. -/
import Derived.Test.YtmeacgpebpfpbaaEqS9
import Derived.Test.YtmeacgpebpfpbaaQuiV
import Derived.LoopTactic
import Derived.Lib.Hide
import Derived.Deep.QuietTactic
import Derived.BigQuiet
import Derived.Deep.RegionWith
import Derived.Handy
namespace Go.Proofs.Ytmeacgpebpfpbaa
open Go.RowKit
set_option linter.unusedVariables false
set_option linter.unusedSimpArgs false
set_option maxRecDepth 100000 in
set_option maxHeartbeats 12000000 in
theorem specEqSents (L M : List Dat) (A B : Option Addr) (n c m k : Nat) (w : World) (h : Lies w (.l L) [.slice A n c]) (h' : Lies w (.l M) [.slice B m k]) (ht : ∀ x ∈ L, Has tySent x) (ht' : ∀ x ∈ M, Has tySent x) (hq : (Dat.l L).bulk ≤ 1099511627776) (hm : m ≤ 9223372036854775807) :
    Calls Try.prog 105 #[.slice A n c, .slice B m k] w (QuietB (eqD L M) w) := by
  have H := Lib.hid h
  have H' := Lib.hid h'
  have HT := Lib.hid ht
  have HT' := Lib.hid ht'
  have HC := Lib.hid h.count
  have HC' := Lib.hid h'.count
  have HQ := Lib.hid hq
  have hn : n ≤ 1099511627776 := by have := h.count; simp only [Dat.bulk] at hq; omega
  clear h h' ht ht' hq
  by_cases hnm : n = m
  · subst hnm
    go_enter Try.func105, Try.ntmps105
    go_wp2
    go_loopw [5] (fun iv wr => ∃ i : Nat, i ≤ n ∧ iv = .int .i64 i ∧ L.take i = M.take i ∧ Drewn w wr) (fun iv _ => n - (intOf iv).toNat)
    case atStart => exact ⟨0, Nat.zero_le _, rfl, rfl, Drewn.refl _⟩
    case round =>
      obtain ⟨i, hin, rfl, hal, hb⟩ := hrel
      have HB := Lib.hid hb
      have HA := Lib.hid hal
      clear hb hal
      by_cases hlt : i < n
      · obtain ⟨b, off, d, xs, rfl, hbw, hzi, hlie, hlen, hcellr⟩ := (H.out.below HB.out.below).elem (fun x hx => (HT.out x hx).width) hlt
        obtain ⟨b', off', d', xs', rfl, hbw', hzi', hlie', hlen', hcells⟩ := (H'.out.below HB.out.below).elem (fun x hx => (HT'.out x hx).width) hlt
        obtain ⟨g0, g1, M2, B2, m2, k2, g3, g4_0, g4_1, g4_2, rfl, rfl, _hg1, hr2, hu2, hv2⟩ := invSent (HT'.out d' (List.mem_of_getElem? hzi')) hlie'
        obtain ⟨f0, f1, L2, A2, n2, c2, f3, f4_0, f4_1, f4_2, rfl, rfl, hf1, hl2, ht2, hm2⟩ := invSent (HT.out d (List.mem_of_getElem? hzi)) hlie
        have hn2 : n2 ≤ 1099511627776 := by have h1 := bulk_mem (List.mem_of_getElem? hzi); have h2 := hl2.count; have h3 := HQ.out; simp only [Dat.bulk, bulkAll] at h1 h3; omega
        have r0 : wr.cell? ⟨b, off + i * 7, none⟩ = some (.int .i64 f0) := hcellr 0 _ rfl
        have r1 : wr.cell? ⟨b, off + i * 7 + 1, none⟩ = some (.string f1) := hcellr 1 _ rfl
        have r2 : wr.cell? ⟨b, off + i * 7 + 2, none⟩ = some (.slice A2 n2 c2) := hcellr 2 _ rfl
        have r3 : wr.cell? ⟨b, off + i * 7 + 3, none⟩ = some (.int .i64 f3) := hcellr 3 _ rfl
        have r4 : wr.cell? ⟨b, off + i * 7 + 4, none⟩ = some (.int .i64 f4_0) := hcellr 4 _ rfl
        have r5 : wr.cell? ⟨b, off + i * 7 + 5, none⟩ = some (.int .i64 f4_1) := hcellr 5 _ rfl
        have r6 : wr.cell? ⟨b, off + i * 7 + 6, none⟩ = some (.int .i64 f4_2) := hcellr 6 _ rfl
        have s0 : wr.cell? ⟨b', off' + i * 7, none⟩ = some (.int .i64 g0) := hcells 0 _ rfl
        have s1 : wr.cell? ⟨b', off' + i * 7 + 1, none⟩ = some (.string g1) := hcells 1 _ rfl
        have s2 : wr.cell? ⟨b', off' + i * 7 + 2, none⟩ = some (.slice B2 m2 k2) := hcells 2 _ rfl
        have s3 : wr.cell? ⟨b', off' + i * 7 + 3, none⟩ = some (.int .i64 g3) := hcells 3 _ rfl
        have s4 : wr.cell? ⟨b', off' + i * 7 + 4, none⟩ = some (.int .i64 g4_0) := hcells 4 _ rfl
        have s5 : wr.cell? ⟨b', off' + i * 7 + 5, none⟩ = some (.int .i64 g4_1) := hcells 5 _ rfl
        have s6 : wr.cell? ⟨b', off' + i * 7 + 6, none⟩ = some (.int .i64 g4_2) := hcells 6 _ rfl
        have HZ := Lib.hid hzi
        have HZ' := Lib.hid hzi'
        have HL2 := Lib.hid hl2
        have HR2 := Lib.hid hr2
        have HT2 := Lib.hid ht2
        have HU2 := Lib.hid hu2
        clear hzi hzi' hcellr hcells hlie hlie' hl2 hr2 ht2 hu2
        by_cases e0 : f0 = g0
        · subst e0
          by_cases e1 : f1 = g1
          · subst e1
            by_cases e2 : L2 = M2
            · subst e2
              by_cases e3 : f3 = g3
              · subst e3
                by_cases e4_0 : f4_0 = g4_0
                · subst e4_0
                  by_cases e4_1 : f4_1 = g4_1
                  · subst e4_1
                    by_cases e4_2 : f4_2 = g4_2
                    · subst e4_2
                      have HN : Hid (L.take (i + 1) = M.take (i + 1)) := Lib.hid (take_nextD HA.out HZ.out HZ'.out)
                      go_wp2_with fail
                      go_quiet (first | (go_at_call 157; exact Calls.quiet_of (specEqVDQ (HL2.out.below (below_drewN (Below.refl _ _) _)) (HR2.out.below (below_drewN (Below.refl _ _) _)) HT2.out HU2.out hn2 _ (eqD_yes _))))
                      go_wp2_with fail
                      go_roundw
                      case rel => exact ⟨i + 1, by omega, by go_num, HN.out, HB.out.more _⟩
                      case measure => simp [intOf]; omega
                    · have HN : Hid (false = eqD L M) := Lib.hid (eqD_at HZ.out HZ'.out (by simp [e4_2])).symm
                      have hb4_2 : (f4_2 == g4_2) = false := by simpa using e4_2
                      have hd4_2 : (f4_2 != g4_2) = true := by simpa using e4_2
                      go_wp2_with fail
                      go_quiet (first | (go_at_call 157; exact Calls.quiet_of (specEqVDQ (HL2.out.below (below_drewN (Below.refl _ _) _)) (HR2.out.below (below_drewN (Below.refl _ _) _)) HT2.out HU2.out hn2 _ (eqD_yes _))))
                      go_wp2_with fail
                      go_ret
                      exact QuietB.of HN.out (HB.out.more _)
                  · have HN : Hid (false = eqD L M) := Lib.hid (eqD_at HZ.out HZ'.out (by simp [e4_1])).symm
                    have hb4_1 : (f4_1 == g4_1) = false := by simpa using e4_1
                    have hd4_1 : (f4_1 != g4_1) = true := by simpa using e4_1
                    go_wp2_with fail
                    go_quiet (first | (go_at_call 157; exact Calls.quiet_of (specEqVDQ (HL2.out.below (below_drewN (Below.refl _ _) _)) (HR2.out.below (below_drewN (Below.refl _ _) _)) HT2.out HU2.out hn2 _ (eqD_yes _))))
                    go_wp2_with fail
                    go_ret
                    exact QuietB.of HN.out (HB.out.more _)
                · have HN : Hid (false = eqD L M) := Lib.hid (eqD_at HZ.out HZ'.out (by simp [e4_0])).symm
                  have hb4_0 : (f4_0 == g4_0) = false := by simpa using e4_0
                  have hd4_0 : (f4_0 != g4_0) = true := by simpa using e4_0
                  go_wp2_with fail
                  go_quiet (first | (go_at_call 157; exact Calls.quiet_of (specEqVDQ (HL2.out.below (below_drewN (Below.refl _ _) _)) (HR2.out.below (below_drewN (Below.refl _ _) _)) HT2.out HU2.out hn2 _ (eqD_yes _))))
                  go_wp2_with fail
                  go_ret
                  exact QuietB.of HN.out (HB.out.more _)
              · have HN : Hid (false = eqD L M) := Lib.hid (eqD_at HZ.out HZ'.out (by simp [e3])).symm
                have hb3 : (f3 == g3) = false := by simpa using e3
                have hd3 : (f3 != g3) = true := by simpa using e3
                go_wp2_with fail
                go_quiet (first | (go_at_call 157; exact Calls.quiet_of (specEqVDQ (HL2.out.below (below_drewN (Below.refl _ _) _)) (HR2.out.below (below_drewN (Below.refl _ _) _)) HT2.out HU2.out hn2 _ (eqD_yes _))))
                go_wp2_with fail
                go_ret
                exact QuietB.of HN.out (HB.out.more _)
            · have HN : Hid (false = eqD L M) := Lib.hid (eqD_at HZ.out HZ'.out (by simp [e2])).symm
              have HE2 := Lib.hid (eqD_no e2)
              clear e2
              go_wp2_with fail
              go_quiet (first | (go_at_call 157; exact Calls.quiet_of (specEqVDQ (HL2.out.below (below_drewN (Below.refl _ _) _)) (HR2.out.below (below_drewN (Below.refl _ _) _)) HT2.out HU2.out hn2 _ HE2.out)))
              go_wp2_with fail
              go_ret
              exact QuietB.of HN.out (HB.out.more _)
          · have HN : Hid (false = eqD L M) := Lib.hid (eqD_at HZ.out HZ'.out (by simp [e1])).symm
            have he1 := bytesNe e1
            have he2 := bytesNeb e1
            clear e1
            go_wp2_with fail
            go_quiet (fail)
            go_wp2_with fail
            go_ret
            exact QuietB.of HN.out (HB.out.more _)
        · have HN : Hid (false = eqD L M) := Lib.hid (eqD_at HZ.out HZ'.out (by simp [e0])).symm
          have hb0 : (f0 == g0) = false := by simpa using e0
          have hd0 : (f0 != g0) = true := by simpa using e0
          go_wp2_with fail
          go_quiet (fail)
          go_wp2_with fail
          go_ret
          exact QuietB.of HN.out (HB.out.more _)
      · obtain rfl : i = n := by omega
        have HN := Lib.hid (eqD_all HC.out HC'.out HA.out).symm
        go_wp2
        go_ret
        exact QuietB.of HN.out HB.out
  · have HN := Lib.hid (eqD_len HC.out HC'.out hnm).symm
    go_enter Try.func105, Try.ntmps105
    go_wp2
    go_ret
    exact QuietB.of HN.out (Drewn.refl _)
end Go.Proofs.Ytmeacgpebpfpbaa
