/- Chapter 12: EqualVats, the reference's. -/
import Derived.Test.YtmeacgpebpfpbaaLokB
import Derived.Test.YtmeacgpebpfpbaaEqER
import Derived.Test.YtmeacgpebpfpbaaEqLS
import Derived.Test.YtmeacgpebpfpbaaEqMS
import Derived.Test.YtmeacgpebpfpbaaSentR
import Derived.Test.YtmeacgpebpfpbaaTyV0
import Derived.Test.YtmeacgpebpfpbaaEqL
import Derived.Deep.RegionHeld3
import Derived.Deep.RegionLaw
import Derived.Deep.Cut
import Derived.LoopTactic
import Derived.Lib.Hide
import Derived.Deep.QuietTactic
import Derived.BigQuiet
import Derived.Deep.RegionWith
import Derived.Handy
namespace Go.Proofs.Ytmeacgpebpfpbaa
open Go.RowKit
set_option linter.unusedVariables false
set_option linter.unusedSimpArgs false
set_option maxRecDepth 100000 in
set_option maxHeartbeats 16000000 in
theorem specEqVat (f0 : Int) (L1 : List Dat) (A1 : Option Addr) (n1 c1 : Nat) (L2 : List Dat) (A2 : Option Addr) (n2 c2 : Nat) (L3 : List Dat) (A3 : Option Addr) (n3 c3 : Nat) (L4 : List Dat) (A4 : Option Addr) (n4 c4 : Nat) (g0 : Int) (M1 : List Dat) (B1 : Option Addr) (m1 k1 : Nat) (M2 : List Dat) (B2 : Option Addr) (m2 k2 : Nat) (M3 : List Dat) (B3 : Option Addr) (m3 k3 : Nat) (M4 : List Dat) (B4 : Option Addr) (m4 k4 : Nat) (w : World) (hl1 : Lies w (.l L1) [.slice A1 n1 c1]) (hr1 : Lies w (.l M1) [.slice B1 m1 k1]) (ht1 : ∀ x ∈ L1, Has tyEntity x) (hu1 : ∀ x ∈ M1, Has tyEntity x) (hq1 : (Dat.l L1).bulk ≤ 1099511627776) (hv1 : m1 ≤ 9223372036854775807) (hl2 : Lies w (.l L2) [.slice A2 n2 c2]) (hr2 : Lies w (.l M2) [.slice B2 m2 k2]) (ht2 : ∀ x ∈ L2, Has tySent x) (hu2 : ∀ x ∈ M2, Has tySent x) (hq2 : (Dat.l L2).bulk ≤ 1099511627776) (hv2 : m2 ≤ 9223372036854775807) (hl3 : Lies w (.l L3) [.slice A3 n3 c3]) (hr3 : Lies w (.l M3) [.slice B3 m3 k3]) (ht3 : ∀ x ∈ L3, Has tyLink x) (hu3 : ∀ x ∈ M3, Has tyLink x) (hq3 : (Dat.l L3).bulk ≤ 1099511627776) (hv3 : m3 ≤ 9223372036854775807) (hl4 : Lies w (.l L4) [.slice A4 n4 c4]) (hr4 : Lies w (.l M4) [.slice B4 m4 k4]) (ht4 : ∀ x ∈ L4, Has tyOutgoing x) (hu4 : ∀ x ∈ M4, Has tyOutgoing x) (hq4 : (Dat.l L4).bulk ≤ 1099511627776) (hv4 : m4 ≤ 9223372036854775807) :
    Calls Try.prog 40 #[.agg #[.int .i64 f0, .slice A1 n1 c1, .slice A2 n2 c2, .slice A3 n3 c3, .slice A4 n4 c4], .agg #[.int .i64 g0, .slice B1 m1 k1, .slice B2 m2 k2, .slice B3 m3 k3, .slice B4 m4 k4]] w (GivesBool (eq1 (.r [.i f0, .l L1, .l L2, .l L3, .l L4]) (.r [.i g0, .l M1, .l M2, .l M3, .l M4])) w) := by
  have HL1 := Lib.hid hl1
  have HR1 := Lib.hid hr1
  have HT1 := Lib.hid ht1
  have HU1 := Lib.hid hu1
  have HC1 := Lib.hid hl1.count
  have HD1 := Lib.hid hr1.count
  have HQ1 := Lib.hid hq1
  have HL2 := Lib.hid hl2
  have HR2 := Lib.hid hr2
  have HT2 := Lib.hid ht2
  have HU2 := Lib.hid hu2
  have HC2 := Lib.hid hl2.count
  have HD2 := Lib.hid hr2.count
  have HQ2 := Lib.hid hq2
  have HL3 := Lib.hid hl3
  have HR3 := Lib.hid hr3
  have HT3 := Lib.hid ht3
  have HU3 := Lib.hid hu3
  have HC3 := Lib.hid hl3.count
  have HD3 := Lib.hid hr3.count
  have HQ3 := Lib.hid hq3
  have HL4 := Lib.hid hl4
  have HR4 := Lib.hid hr4
  have HT4 := Lib.hid ht4
  have HU4 := Lib.hid hu4
  have HC4 := Lib.hid hl4.count
  have HD4 := Lib.hid hr4.count
  have HQ4 := Lib.hid hq4
  clear hl1 hr1 ht1 hu1 hl2 hr2 ht2 hu2 hl3 hr3 ht3 hu3 hl4 hr4 ht4 hu4
  have X := ((Held.start w).push #[.int .i64 f0, .slice A1 n1 c1, .slice A2 n2 c2, .slice A3 n3 c3, .slice A4 n4 c4] 29).push #[.int .i64 g0, .slice B1 m1 k1, .slice B2 m2 k2, .slice B3 m3 k3, .slice B4 m4 k4] 29
  simp only [World.size_alloc] at X
  replace X := Lib.hid X
  by_cases e0 : f0 = g0
  · subst e0
    by_cases e1 : n1 = m1
    · subst e1
      by_cases e2 : L2 = M2
      · subst e2
        by_cases e3 : n3 = m3
        · subst e3
          by_cases e4 : n4 = m4
          · subst e4
            go_enter Try.func40, Try.ntmps40
            go_wp2_with fail
            refine (specEqSents _ _ A2 B2 n2 c2 m2 k2 _ (HL2.out.below X.out.1) (HR2.out.below X.out.1) HT2.out HU2.out hq2 hv2).mono ?_
            rintro e w1 h9
            obtain ⟨rfl, hb⟩ := QuietB.gives h9
            clear h9
            rw [eqD_yes]
            replace X := Lib.hid (X.out.below hb)
            clear hb
            obtain ⟨x0, x1, x2, x3, x4⟩ := (X.out.box (g := w.heap.size) (cs := [.int .i64 f0, .slice A1 n1 c1, .slice A2 n2 c2, .slice A3 n3 c3, .slice A4 n4 c4]) (by repeat (first | exact List.mem_cons_self | refine List.mem_cons_of_mem _ ?_))).c5
            obtain ⟨y0, y1, y2, y3, y4⟩ := (X.out.box (g := w.heap.size + 1) (cs := [.int .i64 f0, .slice B1 n1 k1, .slice B2 m2 k2, .slice B3 n3 k3, .slice B4 n4 k4]) (by repeat (first | exact List.mem_cons_self | refine List.mem_cons_of_mem _ ?_))).c5
            go_wp2_with fail
            clear x0 x1 x2 x3 x4 y0 y1 y2 y3 y4
            go_loopw [5] (fun iv wr => ∃ i : Nat, i ≤ n1 ∧ iv = .int .i64 i ∧ L1.take i = M1.take i ∧ Held w [(w.heap.size + 1, [.int .i64 f0, .slice B1 n1 k1, .slice B2 m2 k2, .slice B3 n3 k3, .slice B4 n4 k4]), (w.heap.size, [.int .i64 f0, .slice A1 n1 c1, .slice A2 n2 c2, .slice A3 n3 c3, .slice A4 n4 c4])] wr) (fun iv _ => n1 - (intOf iv).toNat)
            case atStart => exact ⟨0, Nat.zero_le _, rfl, rfl, X.out⟩
            case round =>
              obtain ⟨i, hin, rfl, hal, hX⟩ := hrel
              clear X
              have X := Lib.hid hX
              have HA := Lib.hid hal
              clear hX hal
              by_cases hlt : i < n1
              · obtain ⟨b, off, d, xs, rfl, hbw, hzi, hlie, hlen, hcellr⟩ := HL1.out.elem (fun x hx => (HT1.out x hx).width) hlt
                obtain ⟨b', off', d', xs', rfl, hbw', hzi', hlie', hlen', hcells⟩ := HR1.out.elem (fun x hx => (HU1.out x hx).width) hlt
                obtain ⟨q0, q1, V2, E2, t2, j2, q3, q4_0, q4_1, V5, E5, t5, j5, V6, E6, t6, j6, q7, q8, q9, q10, rfl, rfl, hg2, hi2, hw2, hg5, hi5, hw5, hg6, hi6, hw6⟩ := invEntity (HU1.out d' (List.mem_of_getElem? hzi')) hlie'
                obtain ⟨p0, p1, U2, D2, s2, h2, p3, p4_0, p4_1, U5, D5, s5, h5, U6, D6, s6, h6, p7, p8, p9, p10, rfl, rfl, he2, hf2, -, he5, hf5, -, he6, hf6, -⟩ := invEntity (HT1.out d (List.mem_of_getElem? hzi)) hlie
                have hb2 : s2 ≤ 1099511627776 := by have h1 := bulk_mem (List.mem_of_getElem? hzi); have h2 := he2.count; have h3 := HQ1.out; simp only [Dat.bulk, bulkAll] at h1 h3; omega
                have hb5 : (Dat.l U5).bulk ≤ 1099511627776 := by have h1 := bulk_mem (List.mem_of_getElem? hzi); have h3 := HQ1.out; simp only [Dat.bulk, bulkAll] at h1 h3 ⊢; omega
                have hb6 : s6 ≤ 1099511627776 := by have h1 := bulk_mem (List.mem_of_getElem? hzi); have h2 := he6.count; have h3 := HQ1.out; simp only [Dat.bulk, bulkAll] at h1 h3; omega
                have HE2 := Lib.hid he2
                have HG2 := Lib.hid hg2
                have HF2 := Lib.hid hf2
                have HI2 := Lib.hid hi2
                have HE5 := Lib.hid he5
                have HG5 := Lib.hid hg5
                have HF5 := Lib.hid hf5
                have HI5 := Lib.hid hi5
                have HE6 := Lib.hid he6
                have HG6 := Lib.hid hg6
                have HF6 := Lib.hid hf6
                have HI6 := Lib.hid hi6
                obtain ⟨x0, x1, x2, x3, x4⟩ := (X.out.box (g := w.heap.size) (cs := [.int .i64 f0, .slice (some ⟨b, off, none⟩) n1 c1, .slice A2 n2 c2, .slice A3 n3 c3, .slice A4 n4 c4]) (by repeat (first | exact List.mem_cons_self | refine List.mem_cons_of_mem _ ?_))).c5
                obtain ⟨y0, y1, y2, y3, y4⟩ := (X.out.box (g := w.heap.size + 1) (cs := [.int .i64 f0, .slice (some ⟨b', off', none⟩) n1 k1, .slice B2 m2 k2, .slice B3 n3 k3, .slice B4 n4 k4]) (by repeat (first | exact List.mem_cons_self | refine List.mem_cons_of_mem _ ?_))).c5
                have hsz : w.heap.size + 1 < wr.heap.size := (X.out.box (g := w.heap.size + 1) (cs := [.int .i64 f0, .slice (some ⟨b', off', none⟩) n1 k1, .slice B2 m2 k2, .slice B3 n3 k3, .slice B4 n4 k4]) (by repeat (first | exact List.mem_cons_self | refine List.mem_cons_of_mem _ ?_))).1
                have HS : Hid (∀ w' : World, Below wr.heap.size wr w' → (w'.cell? ⟨w.heap.size, 1, none⟩ = some (.slice (some ⟨b, off, none⟩) n1 c1) ∧ w'.cell? ⟨w.heap.size + 1, 1, none⟩ = some (.slice (some ⟨b', off', none⟩) n1 k1) ∧ w'.cell? ⟨b, off + i * 12, none⟩ = some (.int .i64 p0) ∧ w'.cell? ⟨b, off + i * 12 + 1, none⟩ = some (.int .i64 p1) ∧ w'.cell? ⟨b, off + i * 12 + 2, none⟩ = some (.slice D2 s2 h2) ∧ w'.cell? ⟨b, off + i * 12 + 3, none⟩ = some (.int .i64 p3) ∧ w'.cell? ⟨b, off + i * 12 + 4, none⟩ = some (.int .i64 p4_0) ∧ w'.cell? ⟨b, off + i * 12 + 5, none⟩ = some (.int .i64 p4_1) ∧ w'.cell? ⟨b, off + i * 12 + 6, none⟩ = some (.slice D5 s5 h5) ∧ w'.cell? ⟨b, off + i * 12 + 7, none⟩ = some (.slice D6 s6 h6) ∧ w'.cell? ⟨b, off + i * 12 + 8, none⟩ = some (.int .i64 p7) ∧ w'.cell? ⟨b, off + i * 12 + 9, none⟩ = some (.int .i64 p8) ∧ w'.cell? ⟨b, off + i * 12 + 10, none⟩ = some (.int .i64 p9) ∧ w'.cell? ⟨b, off + i * 12 + 11, none⟩ = some (.int .i64 p10) ∧ w'.cell? ⟨b', off' + i * 12, none⟩ = some (.int .i64 q0) ∧ w'.cell? ⟨b', off' + i * 12 + 1, none⟩ = some (.int .i64 q1) ∧ w'.cell? ⟨b', off' + i * 12 + 2, none⟩ = some (.slice E2 t2 j2) ∧ w'.cell? ⟨b', off' + i * 12 + 3, none⟩ = some (.int .i64 q3) ∧ w'.cell? ⟨b', off' + i * 12 + 4, none⟩ = some (.int .i64 q4_0) ∧ w'.cell? ⟨b', off' + i * 12 + 5, none⟩ = some (.int .i64 q4_1) ∧ w'.cell? ⟨b', off' + i * 12 + 6, none⟩ = some (.slice E5 t5 j5) ∧ w'.cell? ⟨b', off' + i * 12 + 7, none⟩ = some (.slice E6 t6 j6) ∧ w'.cell? ⟨b', off' + i * 12 + 8, none⟩ = some (.int .i64 q7) ∧ w'.cell? ⟨b', off' + i * 12 + 9, none⟩ = some (.int .i64 q8) ∧ w'.cell? ⟨b', off' + i * 12 + 10, none⟩ = some (.int .i64 q9) ∧ w'.cell? ⟨b', off' + i * 12 + 11, none⟩ = some (.int .i64 q10))) := Lib.hid (fun w' hb => by
                  have hT := X.out.1.trans (hb.mono X.out.1.size)
                  exact ⟨(hb.cell (p := ⟨w.heap.size, 1, none⟩) (by show w.heap.size < wr.heap.size; omega)).trans x1, (hb.cell (p := ⟨w.heap.size + 1, 1, none⟩) (by show w.heap.size + 1 < wr.heap.size; omega)).trans y1, (hT.cell (p := ⟨b, off + i * 12, none⟩) hbw).trans (hcellr 0 _ rfl), (hT.cell (p := ⟨b, off + i * 12 + 1, none⟩) hbw).trans (hcellr 1 _ rfl), (hT.cell (p := ⟨b, off + i * 12 + 2, none⟩) hbw).trans (hcellr 2 _ rfl), (hT.cell (p := ⟨b, off + i * 12 + 3, none⟩) hbw).trans (hcellr 3 _ rfl), (hT.cell (p := ⟨b, off + i * 12 + 4, none⟩) hbw).trans (hcellr 4 _ rfl), (hT.cell (p := ⟨b, off + i * 12 + 5, none⟩) hbw).trans (hcellr 5 _ rfl), (hT.cell (p := ⟨b, off + i * 12 + 6, none⟩) hbw).trans (hcellr 6 _ rfl), (hT.cell (p := ⟨b, off + i * 12 + 7, none⟩) hbw).trans (hcellr 7 _ rfl), (hT.cell (p := ⟨b, off + i * 12 + 8, none⟩) hbw).trans (hcellr 8 _ rfl), (hT.cell (p := ⟨b, off + i * 12 + 9, none⟩) hbw).trans (hcellr 9 _ rfl), (hT.cell (p := ⟨b, off + i * 12 + 10, none⟩) hbw).trans (hcellr 10 _ rfl), (hT.cell (p := ⟨b, off + i * 12 + 11, none⟩) hbw).trans (hcellr 11 _ rfl), (hT.cell (p := ⟨b', off' + i * 12, none⟩) hbw').trans (hcells 0 _ rfl), (hT.cell (p := ⟨b', off' + i * 12 + 1, none⟩) hbw').trans (hcells 1 _ rfl), (hT.cell (p := ⟨b', off' + i * 12 + 2, none⟩) hbw').trans (hcells 2 _ rfl), (hT.cell (p := ⟨b', off' + i * 12 + 3, none⟩) hbw').trans (hcells 3 _ rfl), (hT.cell (p := ⟨b', off' + i * 12 + 4, none⟩) hbw').trans (hcells 4 _ rfl), (hT.cell (p := ⟨b', off' + i * 12 + 5, none⟩) hbw').trans (hcells 5 _ rfl), (hT.cell (p := ⟨b', off' + i * 12 + 6, none⟩) hbw').trans (hcells 6 _ rfl), (hT.cell (p := ⟨b', off' + i * 12 + 7, none⟩) hbw').trans (hcells 7 _ rfl), (hT.cell (p := ⟨b', off' + i * 12 + 8, none⟩) hbw').trans (hcells 8 _ rfl), (hT.cell (p := ⟨b', off' + i * 12 + 9, none⟩) hbw').trans (hcells 9 _ rfl), (hT.cell (p := ⟨b', off' + i * 12 + 10, none⟩) hbw').trans (hcells 10 _ rfl), (hT.cell (p := ⟨b', off' + i * 12 + 11, none⟩) hbw').trans (hcells 11 _ rfl)⟩)
                have HZ := Lib.hid hzi
                have HZ' := Lib.hid hzi'
                clear hzi hzi' hcellr hcells hlie hlie' hbw hbw' he2 hg2 hf2 hi2 he5 hg5 hf5 hi5 he6 hg6 hf6 hi6
                have HJ2 := Lib.hid (HE2.out.below (X.out.1.trans ((Below.refl wr.heap.size wr).drew.mono X.out.1.size)))
                have HK2 := Lib.hid (HG2.out.below (X.out.1.trans ((Below.refl wr.heap.size wr).drew.mono X.out.1.size)))
                have HJ5 := Lib.hid (HE5.out.below (X.out.1.trans ((Below.refl wr.heap.size wr).drew.mono X.out.1.size)))
                have HK5 := Lib.hid (HG5.out.below (X.out.1.trans ((Below.refl wr.heap.size wr).drew.mono X.out.1.size)))
                have HJ6 := Lib.hid (HE6.out.below (X.out.1.trans ((Below.refl wr.heap.size wr).drew.mono X.out.1.size)))
                have HK6 := Lib.hid (HG6.out.below (X.out.1.trans ((Below.refl wr.heap.size wr).drew.mono X.out.1.size)))
                have HBd : Hid (Below wr.heap.size wr wr.drew) := Lib.hid (Below.refl _ _).drew
                have hi0 : (0 : Int) ≤ i := by omega
                have hi1 : (i : Int) < n1 := by omega
                by_cases ed : .r [.i p0, .i p1, .l U2, .i p3, .r [.i p4_0, .i p4_1], .l U5, .l U6, .i p7, .i p8, .i p9, .i p10] = (.r [.i q0, .i q1, .l V2, .i q3, .r [.i q4_0, .i q4_1], .l V5, .l V6, .i q7, .i q8, .i q9, .i q10] : Dat)
                · have HV : Hid (eq1 (.r [.i p0, .i p1, .l U2, .i p3, .r [.i p4_0, .i p4_1], .l U5, .l U6, .i p7, .i p8, .i p9, .i p10]) (.r [.i q0, .i q1, .l V2, .i q3, .r [.i q4_0, .i q4_1], .l V5, .l V6, .i q7, .i q8, .i q9, .i q10]) = true) := Lib.hid (by rw [ed]; exact eq1_yes _)
                  have HEQ := Lib.hid ed
                  clear ed
                  have HN : Hid (L1.take (i + 1) = M1.take (i + 1)) := Lib.hid (take_nextD HA.out HZ.out (by rw [HZ'.out, ← HEQ.out]))
                  go_wp2_with fail
                  go_region_held3 (fun w' => w'.cell? ⟨w.heap.size, 1, none⟩ = some (.slice (some ⟨b, off, none⟩) n1 c1) ∧ w'.cell? ⟨w.heap.size + 1, 1, none⟩ = some (.slice (some ⟨b', off', none⟩) n1 k1) ∧ w'.cell? ⟨b, off + i * 12, none⟩ = some (.int .i64 p0) ∧ w'.cell? ⟨b, off + i * 12 + 1, none⟩ = some (.int .i64 p1) ∧ w'.cell? ⟨b, off + i * 12 + 2, none⟩ = some (.slice D2 s2 h2) ∧ w'.cell? ⟨b, off + i * 12 + 3, none⟩ = some (.int .i64 p3) ∧ w'.cell? ⟨b, off + i * 12 + 4, none⟩ = some (.int .i64 p4_0) ∧ w'.cell? ⟨b, off + i * 12 + 5, none⟩ = some (.int .i64 p4_1) ∧ w'.cell? ⟨b, off + i * 12 + 6, none⟩ = some (.slice D5 s5 h5) ∧ w'.cell? ⟨b, off + i * 12 + 7, none⟩ = some (.slice D6 s6 h6) ∧ w'.cell? ⟨b, off + i * 12 + 8, none⟩ = some (.int .i64 p7) ∧ w'.cell? ⟨b, off + i * 12 + 9, none⟩ = some (.int .i64 p8) ∧ w'.cell? ⟨b, off + i * 12 + 10, none⟩ = some (.int .i64 p9) ∧ w'.cell? ⟨b, off + i * 12 + 11, none⟩ = some (.int .i64 p10) ∧ w'.cell? ⟨b', off' + i * 12, none⟩ = some (.int .i64 q0) ∧ w'.cell? ⟨b', off' + i * 12 + 1, none⟩ = some (.int .i64 q1) ∧ w'.cell? ⟨b', off' + i * 12 + 2, none⟩ = some (.slice E2 t2 j2) ∧ w'.cell? ⟨b', off' + i * 12 + 3, none⟩ = some (.int .i64 q3) ∧ w'.cell? ⟨b', off' + i * 12 + 4, none⟩ = some (.int .i64 q4_0) ∧ w'.cell? ⟨b', off' + i * 12 + 5, none⟩ = some (.int .i64 q4_1) ∧ w'.cell? ⟨b', off' + i * 12 + 6, none⟩ = some (.slice E5 t5 j5) ∧ w'.cell? ⟨b', off' + i * 12 + 7, none⟩ = some (.slice E6 t6 j6) ∧ w'.cell? ⟨b', off' + i * 12 + 8, none⟩ = some (.int .i64 q7) ∧ w'.cell? ⟨b', off' + i * 12 + 9, none⟩ = some (.int .i64 q8) ∧ w'.cell? ⟨b', off' + i * 12 + 10, none⟩ = some (.int .i64 q9) ∧ w'.cell? ⟨b', off' + i * 12 + 11, none⟩ = some (.int .i64 q10))
                    (first | with_reducible exact HS.out _ HBd.out | with_reducible exact HS.out _ HB2.out)
                    (first | (go_at_call 106; (with_reducible refine (specEqEnt p0 p1 U2 D2 s2 h2 p3 p4_0 p4_1 U5 D5 s5 h5 U6 D6 s6 h6 p7 p8 p9 p10 q0 q1 V2 E2 t2 j2 q3 q4_0 q4_1 V5 E5 t5 j5 V6 E6 t6 j6 q7 q8 q9 q10 _ HJ2.out HK2.out HF2.out HI2.out hb2 HJ5.out HK5.out HF5.out HI5.out hb5 hw5 HJ6.out HK6.out HF6.out HI6.out hb6 hw6).mono ?_); rintro e w2 ⟨rfl, hb⟩; rw [HV.out]; (have HB2 := Lib.hid (HBd.out.trans (hb.mono HBd.out.size))); clear hb))
                  all_goals (
                    replace X := Lib.hid (X.out.below HB2.out)
                    go_wp2_with fail
                    go_roundw
                    case rel => exact ⟨i + 1, by omega, by go_num, HN.out, X.out⟩
                    case measure => (simp [intOf]; try omega))
                · have HV : Hid (eq1 (.r [.i p0, .i p1, .l U2, .i p3, .r [.i p4_0, .i p4_1], .l U5, .l U6, .i p7, .i p8, .i p9, .i p10]) (.r [.i q0, .i q1, .l V2, .i q3, .r [.i q4_0, .i q4_1], .l V5, .l V6, .i q7, .i q8, .i q9, .i q10]) = false) := Lib.hid (eq1_no ed)
                  have HNE := Lib.hid ed
                  clear ed
                  have HN : Hid (false = eq1 _ _) := Lib.hid (eq1_no (d := .r [.i f0, .l L1, .l L2, .l L3, .l L4]) (d' := .r [.i f0, .l M1, .l L2, .l M3, .l M4]) (by intro h9; injection h9 with h9; simp only [List.cons.injEq, Dat.l.injEq] at h9; have h8 := HZ.out; rw [h9.2.1, HZ'.out] at h8; exact HNE.out (Option.some.inj h8).symm)).symm
                  go_wp2_with fail
                  go_region_held3 (fun w' => w'.cell? ⟨w.heap.size, 1, none⟩ = some (.slice (some ⟨b, off, none⟩) n1 c1) ∧ w'.cell? ⟨w.heap.size + 1, 1, none⟩ = some (.slice (some ⟨b', off', none⟩) n1 k1) ∧ w'.cell? ⟨b, off + i * 12, none⟩ = some (.int .i64 p0) ∧ w'.cell? ⟨b, off + i * 12 + 1, none⟩ = some (.int .i64 p1) ∧ w'.cell? ⟨b, off + i * 12 + 2, none⟩ = some (.slice D2 s2 h2) ∧ w'.cell? ⟨b, off + i * 12 + 3, none⟩ = some (.int .i64 p3) ∧ w'.cell? ⟨b, off + i * 12 + 4, none⟩ = some (.int .i64 p4_0) ∧ w'.cell? ⟨b, off + i * 12 + 5, none⟩ = some (.int .i64 p4_1) ∧ w'.cell? ⟨b, off + i * 12 + 6, none⟩ = some (.slice D5 s5 h5) ∧ w'.cell? ⟨b, off + i * 12 + 7, none⟩ = some (.slice D6 s6 h6) ∧ w'.cell? ⟨b, off + i * 12 + 8, none⟩ = some (.int .i64 p7) ∧ w'.cell? ⟨b, off + i * 12 + 9, none⟩ = some (.int .i64 p8) ∧ w'.cell? ⟨b, off + i * 12 + 10, none⟩ = some (.int .i64 p9) ∧ w'.cell? ⟨b, off + i * 12 + 11, none⟩ = some (.int .i64 p10) ∧ w'.cell? ⟨b', off' + i * 12, none⟩ = some (.int .i64 q0) ∧ w'.cell? ⟨b', off' + i * 12 + 1, none⟩ = some (.int .i64 q1) ∧ w'.cell? ⟨b', off' + i * 12 + 2, none⟩ = some (.slice E2 t2 j2) ∧ w'.cell? ⟨b', off' + i * 12 + 3, none⟩ = some (.int .i64 q3) ∧ w'.cell? ⟨b', off' + i * 12 + 4, none⟩ = some (.int .i64 q4_0) ∧ w'.cell? ⟨b', off' + i * 12 + 5, none⟩ = some (.int .i64 q4_1) ∧ w'.cell? ⟨b', off' + i * 12 + 6, none⟩ = some (.slice E5 t5 j5) ∧ w'.cell? ⟨b', off' + i * 12 + 7, none⟩ = some (.slice E6 t6 j6) ∧ w'.cell? ⟨b', off' + i * 12 + 8, none⟩ = some (.int .i64 q7) ∧ w'.cell? ⟨b', off' + i * 12 + 9, none⟩ = some (.int .i64 q8) ∧ w'.cell? ⟨b', off' + i * 12 + 10, none⟩ = some (.int .i64 q9) ∧ w'.cell? ⟨b', off' + i * 12 + 11, none⟩ = some (.int .i64 q10))
                    (first | with_reducible exact HS.out _ HBd.out | with_reducible exact HS.out _ HB2.out)
                    (first | (go_at_call 106; (with_reducible refine (specEqEnt p0 p1 U2 D2 s2 h2 p3 p4_0 p4_1 U5 D5 s5 h5 U6 D6 s6 h6 p7 p8 p9 p10 q0 q1 V2 E2 t2 j2 q3 q4_0 q4_1 V5 E5 t5 j5 V6 E6 t6 j6 q7 q8 q9 q10 _ HJ2.out HK2.out HF2.out HI2.out hb2 HJ5.out HK5.out HF5.out HI5.out hb5 hw5 HJ6.out HK6.out HF6.out HI6.out hb6 hw6).mono ?_); rintro e w2 ⟨rfl, hb⟩; rw [HV.out]; (have HB2 := Lib.hid (HBd.out.trans (hb.mono HBd.out.size))); clear hb))
                  all_goals (
                    replace X := Lib.hid (X.out.below HB2.out)
                    go_wp2_with fail
                    go_ret
                    exact GivesBool.of HN.out X.out.1)
              · obtain rfl : n1 = i := by omega
                have HE1 : Hid (L1 = M1) := Lib.hid (by have h1 := HA.out; rw [List.take_of_length_le (by have h2 := HC1.out; omega), List.take_of_length_le (by have h2 := HD1.out; omega)] at h1; exact h1)
                clear HA
                obtain ⟨x0, x1, x2, x3, x4⟩ := (X.out.box (g := w.heap.size) (cs := [.int .i64 f0, .slice A1 n1 c1, .slice A2 n2 c2, .slice A3 n3 c3, .slice A4 n4 c4]) (by repeat (first | exact List.mem_cons_self | refine List.mem_cons_of_mem _ ?_))).c5
                obtain ⟨y0, y1, y2, y3, y4⟩ := (X.out.box (g := w.heap.size + 1) (cs := [.int .i64 f0, .slice B1 n1 k1, .slice B2 m2 k2, .slice B3 n3 k3, .slice B4 n4 k4]) (by repeat (first | exact List.mem_cons_self | refine List.mem_cons_of_mem _ ?_))).c5
                go_wp2_with fail
                clear x0 x1 x2 x3 x4 y0 y1 y2 y3 y4
                go_loopw [6] (fun iv wr => ∃ i : Nat, i ≤ n3 ∧ iv = .int .i64 i ∧ L3.take i = M3.take i ∧ Held w [(w.heap.size + 1, [.int .i64 f0, .slice B1 n1 k1, .slice B2 m2 k2, .slice B3 n3 k3, .slice B4 n4 k4]), (w.heap.size, [.int .i64 f0, .slice A1 n1 c1, .slice A2 n2 c2, .slice A3 n3 c3, .slice A4 n4 c4])] wr) (fun iv _ => n3 - (intOf iv).toNat)
                case atStart => exact ⟨0, Nat.zero_le _, rfl, rfl, X.out⟩
                case round =>
                  obtain ⟨i, hin, rfl, hal, hX⟩ := hrel
                  clear X
                  have X := Lib.hid hX
                  have HA := Lib.hid hal
                  clear hX hal
                  by_cases hlt : i < n3
                  · obtain ⟨b, off, d, xs, rfl, hbw, hzi, hlie, hlen, hcellr⟩ := HL3.out.elem (fun x hx => (HT3.out x hx).width) hlt
                    obtain ⟨b', off', d', xs', rfl, hbw', hzi', hlie', hlen', hcells⟩ := HR3.out.elem (fun x hx => (HU3.out x hx).width) hlt
                    obtain ⟨q0, q1, V2, E2, t2, j2, q3, V4, E4, t4, j4, q5, V6, E6, t6, j6, rfl, rfl, hg2, hi2, hw2, hg4, hi4, hw4, hg6, hi6, hw6⟩ := invLink (HU3.out d' (List.mem_of_getElem? hzi')) hlie'
                    obtain ⟨p0, p1, U2, D2, s2, h2, p3, U4, D4, s4, h4, p5, U6, D6, s6, h6, rfl, rfl, he2, hf2, -, he4, hf4, -, he6, hf6, -⟩ := invLink (HT3.out d (List.mem_of_getElem? hzi)) hlie
                    have hb2 : s2 ≤ 1099511627776 := by have h1 := bulk_mem (List.mem_of_getElem? hzi); have h2 := he2.count; have h3 := HQ3.out; simp only [Dat.bulk, bulkAll] at h1 h3; omega
                    have hb4 : s4 ≤ 1099511627776 := by have h1 := bulk_mem (List.mem_of_getElem? hzi); have h2 := he4.count; have h3 := HQ3.out; simp only [Dat.bulk, bulkAll] at h1 h3; omega
                    have hb6 : s6 ≤ 1099511627776 := by have h1 := bulk_mem (List.mem_of_getElem? hzi); have h2 := he6.count; have h3 := HQ3.out; simp only [Dat.bulk, bulkAll] at h1 h3; omega
                    have HE2 := Lib.hid he2
                    have HG2 := Lib.hid hg2
                    have HF2 := Lib.hid hf2
                    have HI2 := Lib.hid hi2
                    have HE4 := Lib.hid he4
                    have HG4 := Lib.hid hg4
                    have HF4 := Lib.hid hf4
                    have HI4 := Lib.hid hi4
                    have HE6 := Lib.hid he6
                    have HG6 := Lib.hid hg6
                    have HF6 := Lib.hid hf6
                    have HI6 := Lib.hid hi6
                    obtain ⟨x0, x1, x2, x3, x4⟩ := (X.out.box (g := w.heap.size) (cs := [.int .i64 f0, .slice A1 n1 c1, .slice A2 n2 c2, .slice (some ⟨b, off, none⟩) n3 c3, .slice A4 n4 c4]) (by repeat (first | exact List.mem_cons_self | refine List.mem_cons_of_mem _ ?_))).c5
                    obtain ⟨y0, y1, y2, y3, y4⟩ := (X.out.box (g := w.heap.size + 1) (cs := [.int .i64 f0, .slice B1 n1 k1, .slice B2 m2 k2, .slice (some ⟨b', off', none⟩) n3 k3, .slice B4 n4 k4]) (by repeat (first | exact List.mem_cons_self | refine List.mem_cons_of_mem _ ?_))).c5
                    have hsz : w.heap.size + 1 < wr.heap.size := (X.out.box (g := w.heap.size + 1) (cs := [.int .i64 f0, .slice B1 n1 k1, .slice B2 m2 k2, .slice (some ⟨b', off', none⟩) n3 k3, .slice B4 n4 k4]) (by repeat (first | exact List.mem_cons_self | refine List.mem_cons_of_mem _ ?_))).1
                    have HS : Hid (∀ w' : World, Below wr.heap.size wr w' → (w'.cell? ⟨w.heap.size, 3, none⟩ = some (.slice (some ⟨b, off, none⟩) n3 c3) ∧ w'.cell? ⟨w.heap.size + 1, 3, none⟩ = some (.slice (some ⟨b', off', none⟩) n3 k3) ∧ w'.cell? ⟨b, off + i * 7, none⟩ = some (.int .i64 p0) ∧ w'.cell? ⟨b, off + i * 7 + 1, none⟩ = some (.bool p1) ∧ w'.cell? ⟨b, off + i * 7 + 2, none⟩ = some (.slice D2 s2 h2) ∧ w'.cell? ⟨b, off + i * 7 + 3, none⟩ = some (.int .i64 p3) ∧ w'.cell? ⟨b, off + i * 7 + 4, none⟩ = some (.slice D4 s4 h4) ∧ w'.cell? ⟨b, off + i * 7 + 5, none⟩ = some (.int .i64 p5) ∧ w'.cell? ⟨b, off + i * 7 + 6, none⟩ = some (.slice D6 s6 h6) ∧ w'.cell? ⟨b', off' + i * 7, none⟩ = some (.int .i64 q0) ∧ w'.cell? ⟨b', off' + i * 7 + 1, none⟩ = some (.bool q1) ∧ w'.cell? ⟨b', off' + i * 7 + 2, none⟩ = some (.slice E2 t2 j2) ∧ w'.cell? ⟨b', off' + i * 7 + 3, none⟩ = some (.int .i64 q3) ∧ w'.cell? ⟨b', off' + i * 7 + 4, none⟩ = some (.slice E4 t4 j4) ∧ w'.cell? ⟨b', off' + i * 7 + 5, none⟩ = some (.int .i64 q5) ∧ w'.cell? ⟨b', off' + i * 7 + 6, none⟩ = some (.slice E6 t6 j6))) := Lib.hid (fun w' hb => by
                      have hT := X.out.1.trans (hb.mono X.out.1.size)
                      exact ⟨(hb.cell (p := ⟨w.heap.size, 3, none⟩) (by show w.heap.size < wr.heap.size; omega)).trans x3, (hb.cell (p := ⟨w.heap.size + 1, 3, none⟩) (by show w.heap.size + 1 < wr.heap.size; omega)).trans y3, (hT.cell (p := ⟨b, off + i * 7, none⟩) hbw).trans (hcellr 0 _ rfl), (hT.cell (p := ⟨b, off + i * 7 + 1, none⟩) hbw).trans (hcellr 1 _ rfl), (hT.cell (p := ⟨b, off + i * 7 + 2, none⟩) hbw).trans (hcellr 2 _ rfl), (hT.cell (p := ⟨b, off + i * 7 + 3, none⟩) hbw).trans (hcellr 3 _ rfl), (hT.cell (p := ⟨b, off + i * 7 + 4, none⟩) hbw).trans (hcellr 4 _ rfl), (hT.cell (p := ⟨b, off + i * 7 + 5, none⟩) hbw).trans (hcellr 5 _ rfl), (hT.cell (p := ⟨b, off + i * 7 + 6, none⟩) hbw).trans (hcellr 6 _ rfl), (hT.cell (p := ⟨b', off' + i * 7, none⟩) hbw').trans (hcells 0 _ rfl), (hT.cell (p := ⟨b', off' + i * 7 + 1, none⟩) hbw').trans (hcells 1 _ rfl), (hT.cell (p := ⟨b', off' + i * 7 + 2, none⟩) hbw').trans (hcells 2 _ rfl), (hT.cell (p := ⟨b', off' + i * 7 + 3, none⟩) hbw').trans (hcells 3 _ rfl), (hT.cell (p := ⟨b', off' + i * 7 + 4, none⟩) hbw').trans (hcells 4 _ rfl), (hT.cell (p := ⟨b', off' + i * 7 + 5, none⟩) hbw').trans (hcells 5 _ rfl), (hT.cell (p := ⟨b', off' + i * 7 + 6, none⟩) hbw').trans (hcells 6 _ rfl)⟩)
                    have HZ := Lib.hid hzi
                    have HZ' := Lib.hid hzi'
                    clear hzi hzi' hcellr hcells hlie hlie' hbw hbw' he2 hg2 hf2 hi2 he4 hg4 hf4 hi4 he6 hg6 hf6 hi6
                    have HJ2 := Lib.hid (HE2.out.below (X.out.1.trans ((Below.refl wr.heap.size wr).drew.mono X.out.1.size)))
                    have HK2 := Lib.hid (HG2.out.below (X.out.1.trans ((Below.refl wr.heap.size wr).drew.mono X.out.1.size)))
                    have HJ4 := Lib.hid (HE4.out.below (X.out.1.trans ((Below.refl wr.heap.size wr).drew.mono X.out.1.size)))
                    have HK4 := Lib.hid (HG4.out.below (X.out.1.trans ((Below.refl wr.heap.size wr).drew.mono X.out.1.size)))
                    have HJ6 := Lib.hid (HE6.out.below (X.out.1.trans ((Below.refl wr.heap.size wr).drew.mono X.out.1.size)))
                    have HK6 := Lib.hid (HG6.out.below (X.out.1.trans ((Below.refl wr.heap.size wr).drew.mono X.out.1.size)))
                    have HBd : Hid (Below wr.heap.size wr wr.drew) := Lib.hid (Below.refl _ _).drew
                    have hi0 : (0 : Int) ≤ i := by omega
                    have hi1 : (i : Int) < n3 := by omega
                    by_cases ed : .r [.i p0, .b p1, .l U2, .i p3, .l U4, .i p5, .l U6] = (.r [.i q0, .b q1, .l V2, .i q3, .l V4, .i q5, .l V6] : Dat)
                    · have HV : Hid (eq1 (.r [.i p0, .b p1, .l U2, .i p3, .l U4, .i p5, .l U6]) (.r [.i q0, .b q1, .l V2, .i q3, .l V4, .i q5, .l V6]) = true) := Lib.hid (by rw [ed]; exact eq1_yes _)
                      have HEQ := Lib.hid ed
                      clear ed
                      have HN : Hid (L3.take (i + 1) = M3.take (i + 1)) := Lib.hid (take_nextD HA.out HZ.out (by rw [HZ'.out, ← HEQ.out]))
                      go_wp2_with fail
                      go_region_held3 (fun w' => w'.cell? ⟨w.heap.size, 3, none⟩ = some (.slice (some ⟨b, off, none⟩) n3 c3) ∧ w'.cell? ⟨w.heap.size + 1, 3, none⟩ = some (.slice (some ⟨b', off', none⟩) n3 k3) ∧ w'.cell? ⟨b, off + i * 7, none⟩ = some (.int .i64 p0) ∧ w'.cell? ⟨b, off + i * 7 + 1, none⟩ = some (.bool p1) ∧ w'.cell? ⟨b, off + i * 7 + 2, none⟩ = some (.slice D2 s2 h2) ∧ w'.cell? ⟨b, off + i * 7 + 3, none⟩ = some (.int .i64 p3) ∧ w'.cell? ⟨b, off + i * 7 + 4, none⟩ = some (.slice D4 s4 h4) ∧ w'.cell? ⟨b, off + i * 7 + 5, none⟩ = some (.int .i64 p5) ∧ w'.cell? ⟨b, off + i * 7 + 6, none⟩ = some (.slice D6 s6 h6) ∧ w'.cell? ⟨b', off' + i * 7, none⟩ = some (.int .i64 q0) ∧ w'.cell? ⟨b', off' + i * 7 + 1, none⟩ = some (.bool q1) ∧ w'.cell? ⟨b', off' + i * 7 + 2, none⟩ = some (.slice E2 t2 j2) ∧ w'.cell? ⟨b', off' + i * 7 + 3, none⟩ = some (.int .i64 q3) ∧ w'.cell? ⟨b', off' + i * 7 + 4, none⟩ = some (.slice E4 t4 j4) ∧ w'.cell? ⟨b', off' + i * 7 + 5, none⟩ = some (.int .i64 q5) ∧ w'.cell? ⟨b', off' + i * 7 + 6, none⟩ = some (.slice E6 t6 j6))
                        (first | with_reducible exact HS.out _ HBd.out | with_reducible exact HS.out _ HB2.out)
                        (first | (go_at_call 107; (with_reducible refine (specEqLink p0 p1 U2 D2 s2 h2 p3 U4 D4 s4 h4 p5 U6 D6 s6 h6 q0 q1 V2 E2 t2 j2 q3 V4 E4 t4 j4 q5 V6 E6 t6 j6 _ HJ2.out HK2.out HF2.out HI2.out hb2 HJ4.out HK4.out HF4.out HI4.out hb4 HJ6.out HK6.out HF6.out HI6.out hb6).mono ?_); rintro e w2 ⟨rfl, hb⟩; rw [HV.out]; (have HB2 := Lib.hid (HBd.out.trans (hb.mono HBd.out.size))); clear hb))
                      all_goals (
                        replace X := Lib.hid (X.out.below HB2.out)
                        go_wp2_with fail
                        go_roundw
                        case rel => exact ⟨i + 1, by omega, by go_num, HN.out, X.out⟩
                        case measure => (simp [intOf]; try omega))
                    · have HV : Hid (eq1 (.r [.i p0, .b p1, .l U2, .i p3, .l U4, .i p5, .l U6]) (.r [.i q0, .b q1, .l V2, .i q3, .l V4, .i q5, .l V6]) = false) := Lib.hid (eq1_no ed)
                      have HNE := Lib.hid ed
                      clear ed
                      have HN : Hid (false = eq1 _ _) := Lib.hid (eq1_no (d := .r [.i f0, .l L1, .l L2, .l L3, .l L4]) (d' := .r [.i f0, .l M1, .l L2, .l M3, .l M4]) (by intro h9; injection h9 with h9; simp only [List.cons.injEq, Dat.l.injEq] at h9; have h8 := HZ.out; rw [h9.2.2.2.1, HZ'.out] at h8; exact HNE.out (Option.some.inj h8).symm)).symm
                      go_wp2_with fail
                      go_region_held3 (fun w' => w'.cell? ⟨w.heap.size, 3, none⟩ = some (.slice (some ⟨b, off, none⟩) n3 c3) ∧ w'.cell? ⟨w.heap.size + 1, 3, none⟩ = some (.slice (some ⟨b', off', none⟩) n3 k3) ∧ w'.cell? ⟨b, off + i * 7, none⟩ = some (.int .i64 p0) ∧ w'.cell? ⟨b, off + i * 7 + 1, none⟩ = some (.bool p1) ∧ w'.cell? ⟨b, off + i * 7 + 2, none⟩ = some (.slice D2 s2 h2) ∧ w'.cell? ⟨b, off + i * 7 + 3, none⟩ = some (.int .i64 p3) ∧ w'.cell? ⟨b, off + i * 7 + 4, none⟩ = some (.slice D4 s4 h4) ∧ w'.cell? ⟨b, off + i * 7 + 5, none⟩ = some (.int .i64 p5) ∧ w'.cell? ⟨b, off + i * 7 + 6, none⟩ = some (.slice D6 s6 h6) ∧ w'.cell? ⟨b', off' + i * 7, none⟩ = some (.int .i64 q0) ∧ w'.cell? ⟨b', off' + i * 7 + 1, none⟩ = some (.bool q1) ∧ w'.cell? ⟨b', off' + i * 7 + 2, none⟩ = some (.slice E2 t2 j2) ∧ w'.cell? ⟨b', off' + i * 7 + 3, none⟩ = some (.int .i64 q3) ∧ w'.cell? ⟨b', off' + i * 7 + 4, none⟩ = some (.slice E4 t4 j4) ∧ w'.cell? ⟨b', off' + i * 7 + 5, none⟩ = some (.int .i64 q5) ∧ w'.cell? ⟨b', off' + i * 7 + 6, none⟩ = some (.slice E6 t6 j6))
                        (first | with_reducible exact HS.out _ HBd.out | with_reducible exact HS.out _ HB2.out)
                        (first | (go_at_call 107; (with_reducible refine (specEqLink p0 p1 U2 D2 s2 h2 p3 U4 D4 s4 h4 p5 U6 D6 s6 h6 q0 q1 V2 E2 t2 j2 q3 V4 E4 t4 j4 q5 V6 E6 t6 j6 _ HJ2.out HK2.out HF2.out HI2.out hb2 HJ4.out HK4.out HF4.out HI4.out hb4 HJ6.out HK6.out HF6.out HI6.out hb6).mono ?_); rintro e w2 ⟨rfl, hb⟩; rw [HV.out]; (have HB2 := Lib.hid (HBd.out.trans (hb.mono HBd.out.size))); clear hb))
                      all_goals (
                        replace X := Lib.hid (X.out.below HB2.out)
                        go_wp2_with fail
                        go_ret
                        exact GivesBool.of HN.out X.out.1)
                  · obtain rfl : n3 = i := by omega
                    have HE3 : Hid (L3 = M3) := Lib.hid (by have h1 := HA.out; rw [List.take_of_length_le (by have h2 := HC3.out; omega), List.take_of_length_le (by have h2 := HD3.out; omega)] at h1; exact h1)
                    clear HA
                    obtain ⟨x0, x1, x2, x3, x4⟩ := (X.out.box (g := w.heap.size) (cs := [.int .i64 f0, .slice A1 n1 c1, .slice A2 n2 c2, .slice A3 n3 c3, .slice A4 n4 c4]) (by repeat (first | exact List.mem_cons_self | refine List.mem_cons_of_mem _ ?_))).c5
                    obtain ⟨y0, y1, y2, y3, y4⟩ := (X.out.box (g := w.heap.size + 1) (cs := [.int .i64 f0, .slice B1 n1 k1, .slice B2 m2 k2, .slice B3 n3 k3, .slice B4 n4 k4]) (by repeat (first | exact List.mem_cons_self | refine List.mem_cons_of_mem _ ?_))).c5
                    go_wp2_with fail
                    clear x0 x1 x2 x3 x4 y0 y1 y2 y3 y4
                    go_loopw [7] (fun iv wr => ∃ i : Nat, i ≤ n4 ∧ iv = .int .i64 i ∧ L4.take i = M4.take i ∧ Held w [(w.heap.size + 1, [.int .i64 f0, .slice B1 n1 k1, .slice B2 m2 k2, .slice B3 n3 k3, .slice B4 n4 k4]), (w.heap.size, [.int .i64 f0, .slice A1 n1 c1, .slice A2 n2 c2, .slice A3 n3 c3, .slice A4 n4 c4])] wr) (fun iv _ => n4 - (intOf iv).toNat)
                    case atStart => exact ⟨0, Nat.zero_le _, rfl, rfl, X.out⟩
                    case round =>
                      obtain ⟨i, hin, rfl, hal, hX⟩ := hrel
                      clear X
                      have X := Lib.hid hX
                      have HA := Lib.hid hal
                      clear hX hal
                      by_cases hlt : i < n4
                      · obtain ⟨b, off, d, xs, rfl, hbw, hzi, hlie, hlen, hcellr⟩ := HL4.out.elem (fun x hx => (HT4.out x hx).width) hlt
                        obtain ⟨b', off', d', xs', rfl, hbw', hzi', hlie', hlen', hcells⟩ := HR4.out.elem (fun x hx => (HU4.out x hx).width) hlt
                        obtain ⟨q0, q1_0, q1_1, q1_2, q1_3, q1_4, V1_5, E1_5, t1_5, j1_5, q1_6_0, q1_6_1, q1_7, q1_8_0, q1_8_1, q1_8_2, rfl, rfl, -, hg1_5, hi1_5, hw1_5⟩ := invOutgoing (HU4.out d' (List.mem_of_getElem? hzi')) hlie'
                        obtain ⟨p0, p1_0, p1_1, p1_2, p1_3, p1_4, U1_5, D1_5, s1_5, h1_5, p1_6_0, p1_6_1, p1_7, p1_8_0, p1_8_1, p1_8_2, rfl, rfl, -, he1_5, hf1_5, -⟩ := invOutgoing (HT4.out d (List.mem_of_getElem? hzi)) hlie
                        have hb1_5 : s1_5 ≤ 1099511627776 := by have h1 := bulk_mem (List.mem_of_getElem? hzi); have h2 := he1_5.count; have h3 := HQ4.out; simp only [Dat.bulk, bulkAll] at h1 h3; omega
                        have HE1_5 := Lib.hid he1_5
                        have HG1_5 := Lib.hid hg1_5
                        have HF1_5 := Lib.hid hf1_5
                        have HI1_5 := Lib.hid hi1_5
                        obtain ⟨x0, x1, x2, x3, x4⟩ := (X.out.box (g := w.heap.size) (cs := [.int .i64 f0, .slice A1 n1 c1, .slice A2 n2 c2, .slice A3 n3 c3, .slice (some ⟨b, off, none⟩) n4 c4]) (by repeat (first | exact List.mem_cons_self | refine List.mem_cons_of_mem _ ?_))).c5
                        obtain ⟨y0, y1, y2, y3, y4⟩ := (X.out.box (g := w.heap.size + 1) (cs := [.int .i64 f0, .slice B1 n1 k1, .slice B2 m2 k2, .slice B3 n3 k3, .slice (some ⟨b', off', none⟩) n4 k4]) (by repeat (first | exact List.mem_cons_self | refine List.mem_cons_of_mem _ ?_))).c5
                        have hsz : w.heap.size + 1 < wr.heap.size := (X.out.box (g := w.heap.size + 1) (cs := [.int .i64 f0, .slice B1 n1 k1, .slice B2 m2 k2, .slice B3 n3 k3, .slice (some ⟨b', off', none⟩) n4 k4]) (by repeat (first | exact List.mem_cons_self | refine List.mem_cons_of_mem _ ?_))).1
                        have HS : Hid (∀ w' : World, Below wr.heap.size wr w' → (w'.cell? ⟨w.heap.size, 4, none⟩ = some (.slice (some ⟨b, off, none⟩) n4 c4) ∧ w'.cell? ⟨w.heap.size + 1, 4, none⟩ = some (.slice (some ⟨b', off', none⟩) n4 k4) ∧ w'.cell? ⟨b, off + i * 13, none⟩ = some (.int .i64 p0) ∧ w'.cell? ⟨b, off + i * 13 + 1, none⟩ = some (.int .i64 p1_0) ∧ w'.cell? ⟨b, off + i * 13 + 2, none⟩ = some (.int .i64 p1_1) ∧ w'.cell? ⟨b, off + i * 13 + 3, none⟩ = some (.int .i64 p1_2) ∧ w'.cell? ⟨b, off + i * 13 + 4, none⟩ = some (.int .i64 p1_3) ∧ w'.cell? ⟨b, off + i * 13 + 5, none⟩ = some (.string p1_4) ∧ w'.cell? ⟨b, off + i * 13 + 6, none⟩ = some (.slice D1_5 s1_5 h1_5) ∧ w'.cell? ⟨b, off + i * 13 + 7, none⟩ = some (.int .i64 p1_6_0) ∧ w'.cell? ⟨b, off + i * 13 + 8, none⟩ = some (.int .i64 p1_6_1) ∧ w'.cell? ⟨b, off + i * 13 + 9, none⟩ = some (.int .i64 p1_7) ∧ w'.cell? ⟨b, off + i * 13 + 10, none⟩ = some (.int .i64 p1_8_0) ∧ w'.cell? ⟨b, off + i * 13 + 11, none⟩ = some (.int .i64 p1_8_1) ∧ w'.cell? ⟨b, off + i * 13 + 12, none⟩ = some (.int .i64 p1_8_2) ∧ w'.cell? ⟨b', off' + i * 13, none⟩ = some (.int .i64 q0) ∧ w'.cell? ⟨b', off' + i * 13 + 1, none⟩ = some (.int .i64 q1_0) ∧ w'.cell? ⟨b', off' + i * 13 + 2, none⟩ = some (.int .i64 q1_1) ∧ w'.cell? ⟨b', off' + i * 13 + 3, none⟩ = some (.int .i64 q1_2) ∧ w'.cell? ⟨b', off' + i * 13 + 4, none⟩ = some (.int .i64 q1_3) ∧ w'.cell? ⟨b', off' + i * 13 + 5, none⟩ = some (.string q1_4) ∧ w'.cell? ⟨b', off' + i * 13 + 6, none⟩ = some (.slice E1_5 t1_5 j1_5) ∧ w'.cell? ⟨b', off' + i * 13 + 7, none⟩ = some (.int .i64 q1_6_0) ∧ w'.cell? ⟨b', off' + i * 13 + 8, none⟩ = some (.int .i64 q1_6_1) ∧ w'.cell? ⟨b', off' + i * 13 + 9, none⟩ = some (.int .i64 q1_7) ∧ w'.cell? ⟨b', off' + i * 13 + 10, none⟩ = some (.int .i64 q1_8_0) ∧ w'.cell? ⟨b', off' + i * 13 + 11, none⟩ = some (.int .i64 q1_8_1) ∧ w'.cell? ⟨b', off' + i * 13 + 12, none⟩ = some (.int .i64 q1_8_2))) := Lib.hid (fun w' hb => by
                          have hT := X.out.1.trans (hb.mono X.out.1.size)
                          exact ⟨(hb.cell (p := ⟨w.heap.size, 4, none⟩) (by show w.heap.size < wr.heap.size; omega)).trans x4, (hb.cell (p := ⟨w.heap.size + 1, 4, none⟩) (by show w.heap.size + 1 < wr.heap.size; omega)).trans y4, (hT.cell (p := ⟨b, off + i * 13, none⟩) hbw).trans (hcellr 0 _ rfl), (hT.cell (p := ⟨b, off + i * 13 + 1, none⟩) hbw).trans (hcellr 1 _ rfl), (hT.cell (p := ⟨b, off + i * 13 + 2, none⟩) hbw).trans (hcellr 2 _ rfl), (hT.cell (p := ⟨b, off + i * 13 + 3, none⟩) hbw).trans (hcellr 3 _ rfl), (hT.cell (p := ⟨b, off + i * 13 + 4, none⟩) hbw).trans (hcellr 4 _ rfl), (hT.cell (p := ⟨b, off + i * 13 + 5, none⟩) hbw).trans (hcellr 5 _ rfl), (hT.cell (p := ⟨b, off + i * 13 + 6, none⟩) hbw).trans (hcellr 6 _ rfl), (hT.cell (p := ⟨b, off + i * 13 + 7, none⟩) hbw).trans (hcellr 7 _ rfl), (hT.cell (p := ⟨b, off + i * 13 + 8, none⟩) hbw).trans (hcellr 8 _ rfl), (hT.cell (p := ⟨b, off + i * 13 + 9, none⟩) hbw).trans (hcellr 9 _ rfl), (hT.cell (p := ⟨b, off + i * 13 + 10, none⟩) hbw).trans (hcellr 10 _ rfl), (hT.cell (p := ⟨b, off + i * 13 + 11, none⟩) hbw).trans (hcellr 11 _ rfl), (hT.cell (p := ⟨b, off + i * 13 + 12, none⟩) hbw).trans (hcellr 12 _ rfl), (hT.cell (p := ⟨b', off' + i * 13, none⟩) hbw').trans (hcells 0 _ rfl), (hT.cell (p := ⟨b', off' + i * 13 + 1, none⟩) hbw').trans (hcells 1 _ rfl), (hT.cell (p := ⟨b', off' + i * 13 + 2, none⟩) hbw').trans (hcells 2 _ rfl), (hT.cell (p := ⟨b', off' + i * 13 + 3, none⟩) hbw').trans (hcells 3 _ rfl), (hT.cell (p := ⟨b', off' + i * 13 + 4, none⟩) hbw').trans (hcells 4 _ rfl), (hT.cell (p := ⟨b', off' + i * 13 + 5, none⟩) hbw').trans (hcells 5 _ rfl), (hT.cell (p := ⟨b', off' + i * 13 + 6, none⟩) hbw').trans (hcells 6 _ rfl), (hT.cell (p := ⟨b', off' + i * 13 + 7, none⟩) hbw').trans (hcells 7 _ rfl), (hT.cell (p := ⟨b', off' + i * 13 + 8, none⟩) hbw').trans (hcells 8 _ rfl), (hT.cell (p := ⟨b', off' + i * 13 + 9, none⟩) hbw').trans (hcells 9 _ rfl), (hT.cell (p := ⟨b', off' + i * 13 + 10, none⟩) hbw').trans (hcells 10 _ rfl), (hT.cell (p := ⟨b', off' + i * 13 + 11, none⟩) hbw').trans (hcells 11 _ rfl), (hT.cell (p := ⟨b', off' + i * 13 + 12, none⟩) hbw').trans (hcells 12 _ rfl)⟩)
                        have HZ := Lib.hid hzi
                        have HZ' := Lib.hid hzi'
                        clear hzi hzi' hcellr hcells hlie hlie' hbw hbw' he1_5 hg1_5 hf1_5 hi1_5
                        have HJ1_5 := Lib.hid (HE1_5.out.below (X.out.1.trans ((Below.refl wr.heap.size wr).drew.mono X.out.1.size)))
                        have HK1_5 := Lib.hid (HG1_5.out.below (X.out.1.trans ((Below.refl wr.heap.size wr).drew.mono X.out.1.size)))
                        have HBd : Hid (Below wr.heap.size wr wr.drew) := Lib.hid (Below.refl _ _).drew
                        have hi0 : (0 : Int) ≤ i := by omega
                        have hi1 : (i : Int) < n4 := by omega
                        by_cases eo : p0 = q0
                        · subst eo
                          by_cases ed : .r [.i p1_0, .i p1_1, .i p1_2, .i p1_3, .s p1_4, .l U1_5, .r [.i p1_6_0, .i p1_6_1], .i p1_7, .r [.i p1_8_0, .i p1_8_1, .i p1_8_2]] = (.r [.i q1_0, .i q1_1, .i q1_2, .i q1_3, .s q1_4, .l V1_5, .r [.i q1_6_0, .i q1_6_1], .i q1_7, .r [.i q1_8_0, .i q1_8_1, .i q1_8_2]] : Dat)
                          · have HV : Hid (eq1 (.r [.i p1_0, .i p1_1, .i p1_2, .i p1_3, .s p1_4, .l U1_5, .r [.i p1_6_0, .i p1_6_1], .i p1_7, .r [.i p1_8_0, .i p1_8_1, .i p1_8_2]]) (.r [.i q1_0, .i q1_1, .i q1_2, .i q1_3, .s q1_4, .l V1_5, .r [.i q1_6_0, .i q1_6_1], .i q1_7, .r [.i q1_8_0, .i q1_8_1, .i q1_8_2]]) = true) := Lib.hid (by rw [ed]; exact eq1_yes _)
                            have HEQ : Hid ((.r [.i p0, .r [.i p1_0, .i p1_1, .i p1_2, .i p1_3, .s p1_4, .l U1_5, .r [.i p1_6_0, .i p1_6_1], .i p1_7, .r [.i p1_8_0, .i p1_8_1, .i p1_8_2]]] : Dat) = .r [.i p0, .r [.i q1_0, .i q1_1, .i q1_2, .i q1_3, .s q1_4, .l V1_5, .r [.i q1_6_0, .i q1_6_1], .i q1_7, .r [.i q1_8_0, .i q1_8_1, .i q1_8_2]]]) := Lib.hid (by rw [ed])
                            clear ed
                            have HN : Hid (L4.take (i + 1) = M4.take (i + 1)) := Lib.hid (take_nextD HA.out HZ.out (by rw [HZ'.out, ← HEQ.out]))
                            go_wp2_with fail
                            go_region_held3 (fun w' => w'.cell? ⟨w.heap.size, 4, none⟩ = some (.slice (some ⟨b, off, none⟩) n4 c4) ∧ w'.cell? ⟨w.heap.size + 1, 4, none⟩ = some (.slice (some ⟨b', off', none⟩) n4 k4) ∧ w'.cell? ⟨b, off + i * 13, none⟩ = some (.int .i64 p0) ∧ w'.cell? ⟨b, off + i * 13 + 1, none⟩ = some (.int .i64 p1_0) ∧ w'.cell? ⟨b, off + i * 13 + 2, none⟩ = some (.int .i64 p1_1) ∧ w'.cell? ⟨b, off + i * 13 + 3, none⟩ = some (.int .i64 p1_2) ∧ w'.cell? ⟨b, off + i * 13 + 4, none⟩ = some (.int .i64 p1_3) ∧ w'.cell? ⟨b, off + i * 13 + 5, none⟩ = some (.string p1_4) ∧ w'.cell? ⟨b, off + i * 13 + 6, none⟩ = some (.slice D1_5 s1_5 h1_5) ∧ w'.cell? ⟨b, off + i * 13 + 7, none⟩ = some (.int .i64 p1_6_0) ∧ w'.cell? ⟨b, off + i * 13 + 8, none⟩ = some (.int .i64 p1_6_1) ∧ w'.cell? ⟨b, off + i * 13 + 9, none⟩ = some (.int .i64 p1_7) ∧ w'.cell? ⟨b, off + i * 13 + 10, none⟩ = some (.int .i64 p1_8_0) ∧ w'.cell? ⟨b, off + i * 13 + 11, none⟩ = some (.int .i64 p1_8_1) ∧ w'.cell? ⟨b, off + i * 13 + 12, none⟩ = some (.int .i64 p1_8_2) ∧ w'.cell? ⟨b', off' + i * 13, none⟩ = some (.int .i64 p0) ∧ w'.cell? ⟨b', off' + i * 13 + 1, none⟩ = some (.int .i64 q1_0) ∧ w'.cell? ⟨b', off' + i * 13 + 2, none⟩ = some (.int .i64 q1_1) ∧ w'.cell? ⟨b', off' + i * 13 + 3, none⟩ = some (.int .i64 q1_2) ∧ w'.cell? ⟨b', off' + i * 13 + 4, none⟩ = some (.int .i64 q1_3) ∧ w'.cell? ⟨b', off' + i * 13 + 5, none⟩ = some (.string q1_4) ∧ w'.cell? ⟨b', off' + i * 13 + 6, none⟩ = some (.slice E1_5 t1_5 j1_5) ∧ w'.cell? ⟨b', off' + i * 13 + 7, none⟩ = some (.int .i64 q1_6_0) ∧ w'.cell? ⟨b', off' + i * 13 + 8, none⟩ = some (.int .i64 q1_6_1) ∧ w'.cell? ⟨b', off' + i * 13 + 9, none⟩ = some (.int .i64 q1_7) ∧ w'.cell? ⟨b', off' + i * 13 + 10, none⟩ = some (.int .i64 q1_8_0) ∧ w'.cell? ⟨b', off' + i * 13 + 11, none⟩ = some (.int .i64 q1_8_1) ∧ w'.cell? ⟨b', off' + i * 13 + 12, none⟩ = some (.int .i64 q1_8_2))
                              (first | with_reducible exact HS.out _ HBd.out | with_reducible exact HS.out _ HB2.out)
                              (first | (go_at_call 108; (with_reducible refine (specEqMsg p1_0 p1_1 p1_2 p1_3 p1_4 U1_5 D1_5 s1_5 h1_5 p1_6_0 p1_6_1 p1_7 p1_8_0 p1_8_1 p1_8_2 q1_0 q1_1 q1_2 q1_3 q1_4 V1_5 E1_5 t1_5 j1_5 q1_6_0 q1_6_1 q1_7 q1_8_0 q1_8_1 q1_8_2 _ HJ1_5.out HK1_5.out HF1_5.out HI1_5.out hb1_5).mono ?_); rintro e w2 ⟨rfl, hb⟩; rw [HV.out]; (have HB2 := Lib.hid (HBd.out.trans (hb.mono HBd.out.size))); clear hb))
                            all_goals (
                              replace X := Lib.hid (X.out.below HB2.out)
                              go_wp2_with fail
                              go_roundw
                              case rel => exact ⟨i + 1, by omega, by go_num, HN.out, X.out⟩
                              case measure => (simp [intOf]; try omega))
                          · have HV : Hid (eq1 (.r [.i p1_0, .i p1_1, .i p1_2, .i p1_3, .s p1_4, .l U1_5, .r [.i p1_6_0, .i p1_6_1], .i p1_7, .r [.i p1_8_0, .i p1_8_1, .i p1_8_2]]) (.r [.i q1_0, .i q1_1, .i q1_2, .i q1_3, .s q1_4, .l V1_5, .r [.i q1_6_0, .i q1_6_1], .i q1_7, .r [.i q1_8_0, .i q1_8_1, .i q1_8_2]]) = false) := Lib.hid (eq1_no ed)
                            have HNE : Hid (¬ (.r [.i p0, .r [.i p1_0, .i p1_1, .i p1_2, .i p1_3, .s p1_4, .l U1_5, .r [.i p1_6_0, .i p1_6_1], .i p1_7, .r [.i p1_8_0, .i p1_8_1, .i p1_8_2]]] : Dat) = .r [.i p0, .r [.i q1_0, .i q1_1, .i q1_2, .i q1_3, .s q1_4, .l V1_5, .r [.i q1_6_0, .i q1_6_1], .i q1_7, .r [.i q1_8_0, .i q1_8_1, .i q1_8_2]]]) := Lib.hid (by simpa using ed)
                            clear ed
                            have HN : Hid (false = eq1 _ _) := Lib.hid (eq1_no (d := .r [.i f0, .l L1, .l L2, .l L3, .l L4]) (d' := .r [.i f0, .l M1, .l L2, .l M3, .l M4]) (by intro h9; injection h9 with h9; simp only [List.cons.injEq, Dat.l.injEq] at h9; have h8 := HZ.out; rw [h9.2.2.2.2.1, HZ'.out] at h8; exact HNE.out (Option.some.inj h8).symm)).symm
                            go_wp2_with fail
                            go_region_held3 (fun w' => w'.cell? ⟨w.heap.size, 4, none⟩ = some (.slice (some ⟨b, off, none⟩) n4 c4) ∧ w'.cell? ⟨w.heap.size + 1, 4, none⟩ = some (.slice (some ⟨b', off', none⟩) n4 k4) ∧ w'.cell? ⟨b, off + i * 13, none⟩ = some (.int .i64 p0) ∧ w'.cell? ⟨b, off + i * 13 + 1, none⟩ = some (.int .i64 p1_0) ∧ w'.cell? ⟨b, off + i * 13 + 2, none⟩ = some (.int .i64 p1_1) ∧ w'.cell? ⟨b, off + i * 13 + 3, none⟩ = some (.int .i64 p1_2) ∧ w'.cell? ⟨b, off + i * 13 + 4, none⟩ = some (.int .i64 p1_3) ∧ w'.cell? ⟨b, off + i * 13 + 5, none⟩ = some (.string p1_4) ∧ w'.cell? ⟨b, off + i * 13 + 6, none⟩ = some (.slice D1_5 s1_5 h1_5) ∧ w'.cell? ⟨b, off + i * 13 + 7, none⟩ = some (.int .i64 p1_6_0) ∧ w'.cell? ⟨b, off + i * 13 + 8, none⟩ = some (.int .i64 p1_6_1) ∧ w'.cell? ⟨b, off + i * 13 + 9, none⟩ = some (.int .i64 p1_7) ∧ w'.cell? ⟨b, off + i * 13 + 10, none⟩ = some (.int .i64 p1_8_0) ∧ w'.cell? ⟨b, off + i * 13 + 11, none⟩ = some (.int .i64 p1_8_1) ∧ w'.cell? ⟨b, off + i * 13 + 12, none⟩ = some (.int .i64 p1_8_2) ∧ w'.cell? ⟨b', off' + i * 13, none⟩ = some (.int .i64 p0) ∧ w'.cell? ⟨b', off' + i * 13 + 1, none⟩ = some (.int .i64 q1_0) ∧ w'.cell? ⟨b', off' + i * 13 + 2, none⟩ = some (.int .i64 q1_1) ∧ w'.cell? ⟨b', off' + i * 13 + 3, none⟩ = some (.int .i64 q1_2) ∧ w'.cell? ⟨b', off' + i * 13 + 4, none⟩ = some (.int .i64 q1_3) ∧ w'.cell? ⟨b', off' + i * 13 + 5, none⟩ = some (.string q1_4) ∧ w'.cell? ⟨b', off' + i * 13 + 6, none⟩ = some (.slice E1_5 t1_5 j1_5) ∧ w'.cell? ⟨b', off' + i * 13 + 7, none⟩ = some (.int .i64 q1_6_0) ∧ w'.cell? ⟨b', off' + i * 13 + 8, none⟩ = some (.int .i64 q1_6_1) ∧ w'.cell? ⟨b', off' + i * 13 + 9, none⟩ = some (.int .i64 q1_7) ∧ w'.cell? ⟨b', off' + i * 13 + 10, none⟩ = some (.int .i64 q1_8_0) ∧ w'.cell? ⟨b', off' + i * 13 + 11, none⟩ = some (.int .i64 q1_8_1) ∧ w'.cell? ⟨b', off' + i * 13 + 12, none⟩ = some (.int .i64 q1_8_2))
                              (first | with_reducible exact HS.out _ HBd.out | with_reducible exact HS.out _ HB2.out)
                              (first | (go_at_call 108; (with_reducible refine (specEqMsg p1_0 p1_1 p1_2 p1_3 p1_4 U1_5 D1_5 s1_5 h1_5 p1_6_0 p1_6_1 p1_7 p1_8_0 p1_8_1 p1_8_2 q1_0 q1_1 q1_2 q1_3 q1_4 V1_5 E1_5 t1_5 j1_5 q1_6_0 q1_6_1 q1_7 q1_8_0 q1_8_1 q1_8_2 _ HJ1_5.out HK1_5.out HF1_5.out HI1_5.out hb1_5).mono ?_); rintro e w2 ⟨rfl, hb⟩; rw [HV.out]; (have HB2 := Lib.hid (HBd.out.trans (hb.mono HBd.out.size))); clear hb))
                            all_goals (
                              replace X := Lib.hid (X.out.below HB2.out)
                              go_wp2_with fail
                              go_ret
                              exact GivesBool.of HN.out X.out.1)
                        · have ho1 : (p0 == q0) = false := by simpa using eo
                          have ho2 : (p0 != q0) = true := by simpa using eo
                          have HNE : Hid (¬ (.r [.i p0, .r [.i p1_0, .i p1_1, .i p1_2, .i p1_3, .s p1_4, .l U1_5, .r [.i p1_6_0, .i p1_6_1], .i p1_7, .r [.i p1_8_0, .i p1_8_1, .i p1_8_2]]] : Dat) = .r [.i q0, .r [.i q1_0, .i q1_1, .i q1_2, .i q1_3, .s q1_4, .l V1_5, .r [.i q1_6_0, .i q1_6_1], .i q1_7, .r [.i q1_8_0, .i q1_8_1, .i q1_8_2]]]) := Lib.hid (by simp [eo])
                          clear eo
                          have HN : Hid (false = eq1 _ _) := Lib.hid (eq1_no (d := .r [.i f0, .l L1, .l L2, .l L3, .l L4]) (d' := .r [.i f0, .l M1, .l L2, .l M3, .l M4]) (by intro h9; injection h9 with h9; simp only [List.cons.injEq, Dat.l.injEq] at h9; have h8 := HZ.out; rw [h9.2.2.2.2.1, HZ'.out] at h8; exact HNE.out (Option.some.inj h8).symm)).symm
                          obtain ⟨u0, u1, r0, r1, r2, r3, r4, r5, r6, r7, r8, r9, r10, r11, r12, z0, z1, z2, z3, z4, z5, z6, z7, z8, z9, z10, z11, z12⟩ := HS.out _ (Below.refl _ _)
                          clear HS
                          go_wp2_with fail
                          go_quiet (fail)
                          go_wp2_with fail
                          go_ret
                          exact GivesBool.of HN.out (below_drewN X.out.1 _)
                      · obtain rfl : n4 = i := by omega
                        have HE4 : Hid (L4 = M4) := Lib.hid (by have h1 := HA.out; rw [List.take_of_length_le (by have h2 := HC4.out; omega), List.take_of_length_le (by have h2 := HD4.out; omega)] at h1; exact h1)
                        clear HA
                        obtain ⟨x0, x1, x2, x3, x4⟩ := (X.out.box (g := w.heap.size) (cs := [.int .i64 f0, .slice A1 n1 c1, .slice A2 n2 c2, .slice A3 n3 c3, .slice A4 n4 c4]) (by repeat (first | exact List.mem_cons_self | refine List.mem_cons_of_mem _ ?_))).c5
                        obtain ⟨y0, y1, y2, y3, y4⟩ := (X.out.box (g := w.heap.size + 1) (cs := [.int .i64 f0, .slice B1 n1 k1, .slice B2 m2 k2, .slice B3 n3 k3, .slice B4 n4 k4]) (by repeat (first | exact List.mem_cons_self | refine List.mem_cons_of_mem _ ?_))).c5
                        go_wp2_with fail
                        have HN : Hid (true = eq1 _ _) := Lib.hid ((eq1_iff (d := .r [.i f0, .l L1, .l L2, .l L3, .l L4]) (d' := .r [.i f0, .l M1, .l L2, .l M3, .l M4])).2 (by rw [HE1.out, HE3.out, HE4.out])).symm
                        go_ret
                        exact GivesBool.of HN.out X.out.1
          · skip
            have hb1 : ((n4 : Int) == m4) = false := by rw [beq_eq_false_iff_ne]; omega
            have hb2 : ((n4 : Int) != m4) = true := by rw [bne_iff_ne]; omega
            have HN : Hid (false = eq1 _ _) := Lib.hid (eq1_no (d := .r [.i f0, .l L1, .l L2, .l L3, .l L4]) (d' := .r [.i f0, .l M1, .l L2, .l M3, .l M4]) (by intro h9; injection h9 with h9; simp only [List.cons.injEq, Dat.l.injEq] at h9; exact e4 (by rw [← HC4.out, ← HD4.out, h9.2.2.2.2.1]))).symm
            clear e4
            go_enter Try.func40, Try.ntmps40
            go_wp2_with fail
            refine (specEqSents _ _ A2 B2 n2 c2 m2 k2 _ (HL2.out.below X.out.1) (HR2.out.below X.out.1) HT2.out HU2.out hq2 hv2).mono ?_
            rintro e w1 h9
            obtain ⟨rfl, hb⟩ := QuietB.gives h9
            clear h9
            rw [eqD_yes]
            replace X := Lib.hid (X.out.below hb)
            clear hb
            obtain ⟨x0, x1, x2, x3, x4⟩ := (X.out.box (g := w.heap.size) (cs := [.int .i64 f0, .slice A1 n1 c1, .slice A2 n2 c2, .slice A3 n3 c3, .slice A4 n4 c4]) (by repeat (first | exact List.mem_cons_self | refine List.mem_cons_of_mem _ ?_))).c5
            obtain ⟨y0, y1, y2, y3, y4⟩ := (X.out.box (g := w.heap.size + 1) (cs := [.int .i64 f0, .slice B1 n1 k1, .slice B2 m2 k2, .slice B3 n3 k3, .slice B4 m4 k4]) (by repeat (first | exact List.mem_cons_self | refine List.mem_cons_of_mem _ ?_))).c5
            go_wp2_with fail
            go_ret
            exact GivesBool.of HN.out X.out.1
        · skip
          have hb1 : ((n3 : Int) == m3) = false := by rw [beq_eq_false_iff_ne]; omega
          have hb2 : ((n3 : Int) != m3) = true := by rw [bne_iff_ne]; omega
          have HN : Hid (false = eq1 _ _) := Lib.hid (eq1_no (d := .r [.i f0, .l L1, .l L2, .l L3, .l L4]) (d' := .r [.i f0, .l M1, .l L2, .l M3, .l M4]) (by intro h9; injection h9 with h9; simp only [List.cons.injEq, Dat.l.injEq] at h9; exact e3 (by rw [← HC3.out, ← HD3.out, h9.2.2.2.1]))).symm
          clear e3
          go_enter Try.func40, Try.ntmps40
          go_wp2_with fail
          refine (specEqSents _ _ A2 B2 n2 c2 m2 k2 _ (HL2.out.below X.out.1) (HR2.out.below X.out.1) HT2.out HU2.out hq2 hv2).mono ?_
          rintro e w1 h9
          obtain ⟨rfl, hb⟩ := QuietB.gives h9
          clear h9
          rw [eqD_yes]
          replace X := Lib.hid (X.out.below hb)
          clear hb
          obtain ⟨x0, x1, x2, x3, x4⟩ := (X.out.box (g := w.heap.size) (cs := [.int .i64 f0, .slice A1 n1 c1, .slice A2 n2 c2, .slice A3 n3 c3, .slice A4 n4 c4]) (by repeat (first | exact List.mem_cons_self | refine List.mem_cons_of_mem _ ?_))).c5
          obtain ⟨y0, y1, y2, y3, y4⟩ := (X.out.box (g := w.heap.size + 1) (cs := [.int .i64 f0, .slice B1 n1 k1, .slice B2 m2 k2, .slice B3 m3 k3, .slice B4 m4 k4]) (by repeat (first | exact List.mem_cons_self | refine List.mem_cons_of_mem _ ?_))).c5
          go_wp2_with fail
          go_ret
          exact GivesBool.of HN.out X.out.1
      · skip
        have HN : Hid (false = eq1 _ _) := Lib.hid (eq1_no (d := .r [.i f0, .l L1, .l L2, .l L3, .l L4]) (d' := .r [.i f0, .l M1, .l M2, .l M3, .l M4]) (by simp [e2])).symm
        have HN9 : Hid (eqD L2 M2 = false) := Lib.hid (eqD_no e2)
        clear e2
        go_enter Try.func40, Try.ntmps40
        go_wp2_with fail
        refine (specEqSents _ _ A2 B2 n2 c2 m2 k2 _ (HL2.out.below X.out.1) (HR2.out.below X.out.1) HT2.out HU2.out hq2 hv2).mono ?_
        rintro e w1 h9
        obtain ⟨rfl, hb⟩ := QuietB.gives h9
        clear h9
        rw [HN9.out]
        replace X := Lib.hid (X.out.below hb)
        clear hb
        obtain ⟨x0, x1, x2, x3, x4⟩ := (X.out.box (g := w.heap.size) (cs := [.int .i64 f0, .slice A1 n1 c1, .slice A2 n2 c2, .slice A3 n3 c3, .slice A4 n4 c4]) (by repeat (first | exact List.mem_cons_self | refine List.mem_cons_of_mem _ ?_))).c5
        obtain ⟨y0, y1, y2, y3, y4⟩ := (X.out.box (g := w.heap.size + 1) (cs := [.int .i64 f0, .slice B1 n1 k1, .slice B2 m2 k2, .slice B3 m3 k3, .slice B4 m4 k4]) (by repeat (first | exact List.mem_cons_self | refine List.mem_cons_of_mem _ ?_))).c5
        go_wp2_with fail
        go_ret
        exact GivesBool.of HN.out X.out.1
    · skip
      have hb1 : ((n1 : Int) == m1) = false := by rw [beq_eq_false_iff_ne]; omega
      have hb2 : ((n1 : Int) != m1) = true := by rw [bne_iff_ne]; omega
      have HN : Hid (false = eq1 _ _) := Lib.hid (eq1_no (d := .r [.i f0, .l L1, .l L2, .l L3, .l L4]) (d' := .r [.i f0, .l M1, .l M2, .l M3, .l M4]) (by intro h9; injection h9 with h9; simp only [List.cons.injEq, Dat.l.injEq] at h9; exact e1 (by rw [← HC1.out, ← HD1.out, h9.2.1]))).symm
      clear e1
      go_enter Try.func40, Try.ntmps40
      go_wp2_with fail
      go_ret
      exact GivesBool.of HN.out X.out.1
  · skip
    have hb0 : (f0 == g0) = false := by simpa using e0
    have hb9 : (f0 != g0) = true := by simpa using e0
    have HN : Hid (false = eq1 _ _) := Lib.hid (eq1_no (d := .r [.i f0, .l L1, .l L2, .l L3, .l L4]) (d' := .r [.i g0, .l M1, .l M2, .l M3, .l M4]) (by simp [e0])).symm
    clear e0
    go_enter Try.func40, Try.ntmps40
    go_wp2_with fail
    go_ret
    exact GivesBool.of HN.out X.out.1
end Go.Proofs.Ytmeacgpebpfpbaa
