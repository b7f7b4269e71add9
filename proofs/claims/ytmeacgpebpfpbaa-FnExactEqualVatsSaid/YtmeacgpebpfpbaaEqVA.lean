/- Chapter 12: slices.EqualFunc. -/
import Derived.Test.YtmeacgpebpfpbaaEqE9
import Derived.Test.YtmeacgpebpfpbaaEqL
import Derived.Test.YtmeacgpebpfpbaaEqM
import Derived.Test.YtmeacgpebpfpbaaTyV0
import Derived.Deep.RegionHeld3
import Derived.Deep.RegionLaw
import Derived.Deep.Cut
import Derived.LoopTactic
import Derived.Lib.Hide
import Derived.Deep.QuietTactic
import Derived.BigQuiet
import Derived.Deep.RegionWith
import Derived.Handy
namespace Go.Proofs.Ytmeacgpebpfpbaa
open Go.RowKit
set_option linter.unusedVariables false
set_option linter.unusedSimpArgs false
theorem eq1_out {x y : Int} {d e : Dat} (h : x = y) : eq1 d e = eq1 (.r [.i x, d]) (.r [.i y, e]) := by
  subst h
  by_cases h2 : d = e
  · subst h2
    rw [eq1_yes, eq1_yes]
  · rw [eq1_no h2, eq1_no (by simp [h2])]
set_option maxRecDepth 100000 in
set_option maxHeartbeats 8000000 in
theorem implEqOut (f0 : Int) (f1_0 : Int) (f1_1 : Int) (f1_2 : Int) (f1_3 : Int) (f1_4 : ByteArray) (L1_5 : List Dat) (A1_5 : Option Addr) (n1_5 c1_5 : Nat) (f1_6_0 : Int) (f1_6_1 : Int) (f1_7 : Int) (f1_8_0 : Int) (f1_8_1 : Int) (f1_8_2 : Int) (g0 : Int) (g1_0 : Int) (g1_1 : Int) (g1_2 : Int) (g1_3 : Int) (g1_4 : ByteArray) (M1_5 : List Dat) (B1_5 : Option Addr) (m1_5 k1_5 : Nat) (g1_6_0 : Int) (g1_6_1 : Int) (g1_7 : Int) (g1_8_0 : Int) (g1_8_1 : Int) (g1_8_2 : Int) (w : World) (hl1_5 : Lies w (.l L1_5) [.slice A1_5 n1_5 c1_5]) (hr1_5 : Lies w (.l M1_5) [.slice B1_5 m1_5 k1_5]) (ht1_5 : ∀ x ∈ L1_5, Has tyWire x) (hu1_5 : ∀ x ∈ M1_5, Has tyWire x) (hn1_5 : n1_5 ≤ 1099511627776) :
    Calls Try.prog 66 #[.agg #[.int .i64 f0, .int .i64 f1_0, .int .i64 f1_1, .int .i64 f1_2, .int .i64 f1_3, .string f1_4, .slice A1_5 n1_5 c1_5, .int .i64 f1_6_0, .int .i64 f1_6_1, .int .i64 f1_7, .int .i64 f1_8_0, .int .i64 f1_8_1, .int .i64 f1_8_2], .agg #[.int .i64 g0, .int .i64 g1_0, .int .i64 g1_1, .int .i64 g1_2, .int .i64 g1_3, .string g1_4, .slice B1_5 m1_5 k1_5, .int .i64 g1_6_0, .int .i64 g1_6_1, .int .i64 g1_7, .int .i64 g1_8_0, .int .i64 g1_8_1, .int .i64 g1_8_2]] w (GivesBool (eq1 (.r [.i f0, .r [.i f1_0, .i f1_1, .i f1_2, .i f1_3, .s f1_4, .l L1_5, .r [.i f1_6_0, .i f1_6_1], .i f1_7, .r [.i f1_8_0, .i f1_8_1, .i f1_8_2]]]) (.r [.i g0, .r [.i g1_0, .i g1_1, .i g1_2, .i g1_3, .s g1_4, .l M1_5, .r [.i g1_6_0, .i g1_6_1], .i g1_7, .r [.i g1_8_0, .i g1_8_1, .i g1_8_2]]])) w) := by
  have B0 : Hid (Below w.heap.size w ((w.alloc (.cells #[.int .i64 f0, .int .i64 f1_0, .int .i64 f1_1, .int .i64 f1_2, .int .i64 f1_3, .string f1_4, .slice A1_5 n1_5 c1_5, .int .i64 f1_6_0, .int .i64 f1_6_1, .int .i64 f1_7, .int .i64 f1_8_0, .int .i64 f1_8_1, .int .i64 f1_8_2] 114)).alloc (.cells #[.int .i64 g0, .int .i64 g1_0, .int .i64 g1_1, .int .i64 g1_2, .int .i64 g1_3, .string g1_4, .slice B1_5 m1_5 k1_5, .int .i64 g1_6_0, .int .i64 g1_6_1, .int .i64 g1_7, .int .i64 g1_8_0, .int .i64 g1_8_1, .int .i64 g1_8_2] 114))) := Lib.hid (by go_grown)
  have HL := Lib.hid (hl1_5.below B0.out)
  have HR := Lib.hid (hr1_5.below B0.out)
  have HT := Lib.hid ht1_5
  have HU := Lib.hid hu1_5
  clear hl1_5 hr1_5 ht1_5 hu1_5
  by_cases e0 : f0 = g0
  · have HE : Hid (eq1 (.r [.i f1_0, .i f1_1, .i f1_2, .i f1_3, .s f1_4, .l L1_5, .r [.i f1_6_0, .i f1_6_1], .i f1_7, .r [.i f1_8_0, .i f1_8_1, .i f1_8_2]]) (.r [.i g1_0, .i g1_1, .i g1_2, .i g1_3, .s g1_4, .l M1_5, .r [.i g1_6_0, .i g1_6_1], .i g1_7, .r [.i g1_8_0, .i g1_8_1, .i g1_8_2]]) = eq1 (.r [.i f0, .r [.i f1_0, .i f1_1, .i f1_2, .i f1_3, .s f1_4, .l L1_5, .r [.i f1_6_0, .i f1_6_1], .i f1_7, .r [.i f1_8_0, .i f1_8_1, .i f1_8_2]]]) (.r [.i g0, .r [.i g1_0, .i g1_1, .i g1_2, .i g1_3, .s g1_4, .l M1_5, .r [.i g1_6_0, .i g1_6_1], .i g1_7, .r [.i g1_8_0, .i g1_8_1, .i g1_8_2]]])) := Lib.hid (eq1_out e0)
    subst e0
    obtain ⟨v, hv⟩ : ∃ v, eq1 (.r [.i f1_0, .i f1_1, .i f1_2, .i f1_3, .s f1_4, .l L1_5, .r [.i f1_6_0, .i f1_6_1], .i f1_7, .r [.i f1_8_0, .i f1_8_1, .i f1_8_2]]) (.r [.i g1_0, .i g1_1, .i g1_2, .i g1_3, .s g1_4, .l M1_5, .r [.i g1_6_0, .i g1_6_1], .i g1_7, .r [.i g1_8_0, .i g1_8_1, .i g1_8_2]]) = v := ⟨_, rfl⟩
    rw [hv] at HE
    have HV := Lib.hid hv
    clear hv
    go_enter Try.func66, Try.ntmps66
    go_wp2_with fail
    refine (implEqMsg f1_0 f1_1 f1_2 f1_3 f1_4 L1_5 A1_5 n1_5 c1_5 f1_6_0 f1_6_1 f1_7 f1_8_0 f1_8_1 f1_8_2 g1_0 g1_1 g1_2 g1_3 g1_4 M1_5 B1_5 m1_5 k1_5 g1_6_0 g1_6_1 g1_7 g1_8_0 g1_8_1 g1_8_2 _ HL.out HR.out HT.out HU.out hn1_5).mono ?_
    rintro e w2 ⟨rfl, hb⟩
    rw [HV.out]
    have HB := Lib.hid (B0.out.trans (hb.mono B0.out.size))
    clear hb
    go_wp2_with fail
    go_ret
    exact GivesBool.of HE.out HB.out
  · have hb0 : (f0 == g0) = false := by simpa using e0
    have HE : Hid (false = eq1 (.r [.i f0, .r [.i f1_0, .i f1_1, .i f1_2, .i f1_3, .s f1_4, .l L1_5, .r [.i f1_6_0, .i f1_6_1], .i f1_7, .r [.i f1_8_0, .i f1_8_1, .i f1_8_2]]]) (.r [.i g0, .r [.i g1_0, .i g1_1, .i g1_2, .i g1_3, .s g1_4, .l M1_5, .r [.i g1_6_0, .i g1_6_1], .i g1_7, .r [.i g1_8_0, .i g1_8_1, .i g1_8_2]]])) := Lib.hid (eq1_no (by simp [e0])).symm
    clear e0
    go_enter Try.func66, Try.ntmps66
    go_wp2_with fail
    go_ret
    exact GivesBool.of HE.out B0.out
set_option maxRecDepth 100000 in
set_option maxHeartbeats 8000000 in
theorem eqEnts (L M : List Dat) (A B : Option Addr) (n c m k : Nat) (w : World) (h : Lies w (.l L) [.slice A n c]) (h' : Lies w (.l M) [.slice B m k]) (ht : ∀ x ∈ L, Has tyEntity x) (ht' : ∀ x ∈ M, Has tyEntity x) (hq : (Dat.l L).bulk ≤ 1099511627776) (hm : m ≤ 9223372036854775807) :
    Calls Try.prog 61 #[.slice A n c, .slice B m k, .func (.func 20) #[] #[]] w (GivesBool (eqD L M) w) := by
  have H := Lib.hid h
  have H' := Lib.hid h'
  have HT := Lib.hid ht
  have HT' := Lib.hid ht'
  have HC := Lib.hid h.count
  have HC' := Lib.hid h'.count
  have HQ := Lib.hid hq
  have hn : n ≤ 1099511627776 := by have := h.count; simp only [Dat.bulk] at hq; omega
  clear h h' ht ht' hq
  by_cases hnm : n = m
  · subst hnm
    go_enter Try.func61, Try.ntmps61
    go_wp2
    go_loopw [17] (fun iv wr => ∃ i : Nat, i ≤ n ∧ iv = .int .i64 i ∧ L.take i = M.take i ∧ Below w.heap.size w wr) (fun iv _ => n - (intOf iv).toNat)
    case atStart => exact ⟨0, Nat.zero_le _, rfl, rfl, Below.refl _ _⟩
    case round =>
      obtain ⟨i, hin, rfl, hal, hb⟩ := hrel
      have HB := Lib.hid hb
      have HA := Lib.hid hal
      clear hb hal
      by_cases hlt : i < n
      · obtain ⟨b, off, d, xs, rfl, hbw, hzi, hlie, hlen, hcellr⟩ := (H.out.below HB.out).elem (fun x hx => (HT.out x hx).width) hlt
        obtain ⟨b', off', d', xs', rfl, hbw', hzi', hlie', hlen', hcells⟩ := (H'.out.below HB.out).elem (fun x hx => (HT'.out x hx).width) hlt
        obtain ⟨g0, g1, M2, B2, m2, k2, g3, g4_0, g4_1, M5, B5, m5, k5, M6, B6, m6, k6, g7, g8, g9, g10, rfl, rfl, hr2, hu2, hv2, hr5, hu5, hv5, hr6, hu6, hv6⟩ := invEntity (HT'.out d' (List.mem_of_getElem? hzi')) hlie'
        obtain ⟨f0, f1, L2, A2, n2, c2, f3, f4_0, f4_1, L5, A5, n5, c5, L6, A6, n6, c6, f7, f8, f9, f10, rfl, rfl, hl2, ht2, -, hl5, ht5, -, hl6, ht6, -⟩ := invEntity (HT.out d (List.mem_of_getElem? hzi)) hlie
        have hq2 : n2 ≤ 1099511627776 := by have h1 := bulk_mem (List.mem_of_getElem? hzi); have h2 := hl2.count; have h3 := HQ.out; simp only [Dat.bulk, bulkAll] at h1 h3; omega
        have hq5 : (Dat.l L5).bulk ≤ 1099511627776 := by have h1 := bulk_mem (List.mem_of_getElem? hzi); have h3 := HQ.out; simp only [Dat.bulk, bulkAll] at h1 h3 ⊢; omega
        have hq6 : n6 ≤ 1099511627776 := by have h1 := bulk_mem (List.mem_of_getElem? hzi); have h2 := hl6.count; have h3 := HQ.out; simp only [Dat.bulk, bulkAll] at h1 h3; omega
        have r0 : wr.cell? ⟨b, off + i * 12, none⟩ = some (.int .i64 f0) := hcellr 0 _ rfl
        have r1 : wr.cell? ⟨b, off + i * 12 + 1, none⟩ = some (.int .i64 f1) := hcellr 1 _ rfl
        have r2 : wr.cell? ⟨b, off + i * 12 + 2, none⟩ = some (.slice A2 n2 c2) := hcellr 2 _ rfl
        have r3 : wr.cell? ⟨b, off + i * 12 + 3, none⟩ = some (.int .i64 f3) := hcellr 3 _ rfl
        have r4 : wr.cell? ⟨b, off + i * 12 + 4, none⟩ = some (.int .i64 f4_0) := hcellr 4 _ rfl
        have r5 : wr.cell? ⟨b, off + i * 12 + 5, none⟩ = some (.int .i64 f4_1) := hcellr 5 _ rfl
        have r6 : wr.cell? ⟨b, off + i * 12 + 6, none⟩ = some (.slice A5 n5 c5) := hcellr 6 _ rfl
        have r7 : wr.cell? ⟨b, off + i * 12 + 7, none⟩ = some (.slice A6 n6 c6) := hcellr 7 _ rfl
        have r8 : wr.cell? ⟨b, off + i * 12 + 8, none⟩ = some (.int .i64 f7) := hcellr 8 _ rfl
        have r9 : wr.cell? ⟨b, off + i * 12 + 9, none⟩ = some (.int .i64 f8) := hcellr 9 _ rfl
        have r10 : wr.cell? ⟨b, off + i * 12 + 10, none⟩ = some (.int .i64 f9) := hcellr 10 _ rfl
        have r11 : wr.cell? ⟨b, off + i * 12 + 11, none⟩ = some (.int .i64 f10) := hcellr 11 _ rfl
        have t0 := fun o => (((Below.refl wr.heap.size wr).alloc (Nat.le_refl _) o).cell (p := ⟨b', off' + i * 12, none⟩) hbw').trans (hcells 0 _ rfl)
        have t1 := fun o => (((Below.refl wr.heap.size wr).alloc (Nat.le_refl _) o).cell (p := ⟨b', off' + i * 12 + 1, none⟩) hbw').trans (hcells 1 _ rfl)
        have t2 := fun o => (((Below.refl wr.heap.size wr).alloc (Nat.le_refl _) o).cell (p := ⟨b', off' + i * 12 + 2, none⟩) hbw').trans (hcells 2 _ rfl)
        have t3 := fun o => (((Below.refl wr.heap.size wr).alloc (Nat.le_refl _) o).cell (p := ⟨b', off' + i * 12 + 3, none⟩) hbw').trans (hcells 3 _ rfl)
        have t4 := fun o => (((Below.refl wr.heap.size wr).alloc (Nat.le_refl _) o).cell (p := ⟨b', off' + i * 12 + 4, none⟩) hbw').trans (hcells 4 _ rfl)
        have t5 := fun o => (((Below.refl wr.heap.size wr).alloc (Nat.le_refl _) o).cell (p := ⟨b', off' + i * 12 + 5, none⟩) hbw').trans (hcells 5 _ rfl)
        have t6 := fun o => (((Below.refl wr.heap.size wr).alloc (Nat.le_refl _) o).cell (p := ⟨b', off' + i * 12 + 6, none⟩) hbw').trans (hcells 6 _ rfl)
        have t7 := fun o => (((Below.refl wr.heap.size wr).alloc (Nat.le_refl _) o).cell (p := ⟨b', off' + i * 12 + 7, none⟩) hbw').trans (hcells 7 _ rfl)
        have t8 := fun o => (((Below.refl wr.heap.size wr).alloc (Nat.le_refl _) o).cell (p := ⟨b', off' + i * 12 + 8, none⟩) hbw').trans (hcells 8 _ rfl)
        have t9 := fun o => (((Below.refl wr.heap.size wr).alloc (Nat.le_refl _) o).cell (p := ⟨b', off' + i * 12 + 9, none⟩) hbw').trans (hcells 9 _ rfl)
        have t10 := fun o => (((Below.refl wr.heap.size wr).alloc (Nat.le_refl _) o).cell (p := ⟨b', off' + i * 12 + 10, none⟩) hbw').trans (hcells 10 _ rfl)
        have t11 := fun o => (((Below.refl wr.heap.size wr).alloc (Nat.le_refl _) o).cell (p := ⟨b', off' + i * 12 + 11, none⟩) hbw').trans (hcells 11 _ rfl)
        have B0 : Hid (Below wr.heap.size wr ((wr.alloc (.cells #[.int .i64 f0, .int .i64 f1, .slice A2 n2 c2, .int .i64 f3, .int .i64 f4_0, .int .i64 f4_1, .slice A5 n5 c5, .slice A6 n6 c6, .int .i64 f7, .int .i64 f8, .int .i64 f9, .int .i64 f10] 38)).alloc (.cells #[.int .i64 g0, .int .i64 g1, .slice B2 m2 k2, .int .i64 g3, .int .i64 g4_0, .int .i64 g4_1, .slice B5 m5 k5, .slice B6 m6 k6, .int .i64 g7, .int .i64 g8, .int .i64 g9, .int .i64 g10] 38))) := Lib.hid (by go_grown)
        have HZ := Lib.hid hzi
        have HZ' := Lib.hid hzi'
        have HE2 := Lib.hid (hl2.below B0.out)
        have HR2 := Lib.hid (hr2.below B0.out)
        have HF2 := Lib.hid ht2
        have HG2 := Lib.hid hu2
        have HE5 := Lib.hid (hl5.below B0.out)
        have HR5 := Lib.hid (hr5.below B0.out)
        have HF5 := Lib.hid ht5
        have HG5 := Lib.hid hu5
        have HE6 := Lib.hid (hl6.below B0.out)
        have HR6 := Lib.hid (hr6.below B0.out)
        have HF6 := Lib.hid ht6
        have HG6 := Lib.hid hu6
        clear hzi hzi' hcellr hcells hlie hlie' hbw' hl2 hr2 ht2 hu2 hl5 hr5 ht5 hu5 hl6 hr6 ht6 hu6
        obtain ⟨v, hv⟩ : ∃ v, eq1 (.r [.i f0, .i f1, .l L2, .i f3, .r [.i f4_0, .i f4_1], .l L5, .l L6, .i f7, .i f8, .i f9, .i f10]) (.r [.i g0, .i g1, .l M2, .i g3, .r [.i g4_0, .i g4_1], .l M5, .l M6, .i g7, .i g8, .i g9, .i g10]) = v := ⟨_, rfl⟩
        have HV := Lib.hid hv
        clear hv
        go_wp2_with fail
        refine (implEqEnt f0 f1 L2 A2 n2 c2 f3 f4_0 f4_1 L5 A5 n5 c5 L6 A6 n6 c6 f7 f8 f9 f10 g0 g1 M2 B2 m2 k2 g3 g4_0 g4_1 M5 B5 m5 k5 M6 B6 m6 k6 g7 g8 g9 g10 _ HE2.out HR2.out HF2.out HG2.out hq2 HE5.out HR5.out HF5.out HG5.out hq5 hv5 HE6.out HR6.out HF6.out HG6.out hq6).mono ?_
        rintro e w2 ⟨rfl, hb⟩
        rw [HV.out]
        have HB2 := Lib.hid (HB.out.trans ((B0.out.trans (hb.mono B0.out.size)).mono HB.out.size))
        clear hb
        cases v with
        | true =>
          have HN : Hid (L.take (i + 1) = M.take (i + 1)) := Lib.hid (by
            have e9 := eq1_iff.1 HV.out
            exact take_nextD HA.out HZ.out (by rw [HZ'.out, ← e9]))
          go_wp2_with fail
          go_roundw
          case rel => exact ⟨i + 1, by omega, by go_num, HN.out, HB2.out⟩
          case measure => (simp [intOf]; try omega)
        | false =>
          have HN : Hid (false = eqD L M) := Lib.hid (eqD_at HZ.out HZ'.out (fun e9 => by have h9 := HV.out; rw [e9, eq1_yes] at h9; cases h9)).symm
          go_wp2_with fail
          go_ret
          exact GivesBool.of HN.out HB2.out
      · obtain rfl : n = i := by omega
        have HN : Hid (true = eqD L M) := Lib.hid (eqD_all HC.out HC'.out HA.out).symm
        go_wp2_with fail
        go_ret
        exact GivesBool.of HN.out HB.out
  · have hb1 : ((n : Int) == m) = false := by rw [beq_eq_false_iff_ne]; omega
    have hb2 : ((n : Int) != m) = true := by rw [bne_iff_ne]; omega
    have HN : Hid (false = eqD L M) := Lib.hid (eqD_len HC.out HC'.out hnm).symm
    clear hnm
    go_enter Try.func61, Try.ntmps61
    go_wp2
    go_ret
    exact GivesBool.of HN.out (Below.refl _ _)
set_option maxRecDepth 100000 in
set_option maxHeartbeats 8000000 in
theorem eqLnks (L M : List Dat) (A B : Option Addr) (n c m k : Nat) (w : World) (h : Lies w (.l L) [.slice A n c]) (h' : Lies w (.l M) [.slice B m k]) (ht : ∀ x ∈ L, Has tyLink x) (ht' : ∀ x ∈ M, Has tyLink x) (hq : (Dat.l L).bulk ≤ 1099511627776) (hm : m ≤ 9223372036854775807) :
    Calls Try.prog 63 #[.slice A n c, .slice B m k, .func (.func 64) #[] #[]] w (GivesBool (eqD L M) w) := by
  have H := Lib.hid h
  have H' := Lib.hid h'
  have HT := Lib.hid ht
  have HT' := Lib.hid ht'
  have HC := Lib.hid h.count
  have HC' := Lib.hid h'.count
  have HQ := Lib.hid hq
  have hn : n ≤ 1099511627776 := by have := h.count; simp only [Dat.bulk] at hq; omega
  clear h h' ht ht' hq
  by_cases hnm : n = m
  · subst hnm
    go_enter Try.func63, Try.ntmps63
    go_wp2
    go_loopw [17] (fun iv wr => ∃ i : Nat, i ≤ n ∧ iv = .int .i64 i ∧ L.take i = M.take i ∧ Below w.heap.size w wr) (fun iv _ => n - (intOf iv).toNat)
    case atStart => exact ⟨0, Nat.zero_le _, rfl, rfl, Below.refl _ _⟩
    case round =>
      obtain ⟨i, hin, rfl, hal, hb⟩ := hrel
      have HB := Lib.hid hb
      have HA := Lib.hid hal
      clear hb hal
      by_cases hlt : i < n
      · obtain ⟨b, off, d, xs, rfl, hbw, hzi, hlie, hlen, hcellr⟩ := (H.out.below HB.out).elem (fun x hx => (HT.out x hx).width) hlt
        obtain ⟨b', off', d', xs', rfl, hbw', hzi', hlie', hlen', hcells⟩ := (H'.out.below HB.out).elem (fun x hx => (HT'.out x hx).width) hlt
        obtain ⟨g0, g1, M2, B2, m2, k2, g3, M4, B4, m4, k4, g5, M6, B6, m6, k6, rfl, rfl, hr2, hu2, hv2, hr4, hu4, hv4, hr6, hu6, hv6⟩ := invLink (HT'.out d' (List.mem_of_getElem? hzi')) hlie'
        obtain ⟨f0, f1, L2, A2, n2, c2, f3, L4, A4, n4, c4, f5, L6, A6, n6, c6, rfl, rfl, hl2, ht2, -, hl4, ht4, -, hl6, ht6, -⟩ := invLink (HT.out d (List.mem_of_getElem? hzi)) hlie
        have hq2 : n2 ≤ 1099511627776 := by have h1 := bulk_mem (List.mem_of_getElem? hzi); have h2 := hl2.count; have h3 := HQ.out; simp only [Dat.bulk, bulkAll] at h1 h3; omega
        have hq4 : n4 ≤ 1099511627776 := by have h1 := bulk_mem (List.mem_of_getElem? hzi); have h2 := hl4.count; have h3 := HQ.out; simp only [Dat.bulk, bulkAll] at h1 h3; omega
        have hq6 : n6 ≤ 1099511627776 := by have h1 := bulk_mem (List.mem_of_getElem? hzi); have h2 := hl6.count; have h3 := HQ.out; simp only [Dat.bulk, bulkAll] at h1 h3; omega
        have r0 : wr.cell? ⟨b, off + i * 7, none⟩ = some (.int .i64 f0) := hcellr 0 _ rfl
        have r1 : wr.cell? ⟨b, off + i * 7 + 1, none⟩ = some (.bool f1) := hcellr 1 _ rfl
        have r2 : wr.cell? ⟨b, off + i * 7 + 2, none⟩ = some (.slice A2 n2 c2) := hcellr 2 _ rfl
        have r3 : wr.cell? ⟨b, off + i * 7 + 3, none⟩ = some (.int .i64 f3) := hcellr 3 _ rfl
        have r4 : wr.cell? ⟨b, off + i * 7 + 4, none⟩ = some (.slice A4 n4 c4) := hcellr 4 _ rfl
        have r5 : wr.cell? ⟨b, off + i * 7 + 5, none⟩ = some (.int .i64 f5) := hcellr 5 _ rfl
        have r6 : wr.cell? ⟨b, off + i * 7 + 6, none⟩ = some (.slice A6 n6 c6) := hcellr 6 _ rfl
        have t0 := fun o => (((Below.refl wr.heap.size wr).alloc (Nat.le_refl _) o).cell (p := ⟨b', off' + i * 7, none⟩) hbw').trans (hcells 0 _ rfl)
        have t1 := fun o => (((Below.refl wr.heap.size wr).alloc (Nat.le_refl _) o).cell (p := ⟨b', off' + i * 7 + 1, none⟩) hbw').trans (hcells 1 _ rfl)
        have t2 := fun o => (((Below.refl wr.heap.size wr).alloc (Nat.le_refl _) o).cell (p := ⟨b', off' + i * 7 + 2, none⟩) hbw').trans (hcells 2 _ rfl)
        have t3 := fun o => (((Below.refl wr.heap.size wr).alloc (Nat.le_refl _) o).cell (p := ⟨b', off' + i * 7 + 3, none⟩) hbw').trans (hcells 3 _ rfl)
        have t4 := fun o => (((Below.refl wr.heap.size wr).alloc (Nat.le_refl _) o).cell (p := ⟨b', off' + i * 7 + 4, none⟩) hbw').trans (hcells 4 _ rfl)
        have t5 := fun o => (((Below.refl wr.heap.size wr).alloc (Nat.le_refl _) o).cell (p := ⟨b', off' + i * 7 + 5, none⟩) hbw').trans (hcells 5 _ rfl)
        have t6 := fun o => (((Below.refl wr.heap.size wr).alloc (Nat.le_refl _) o).cell (p := ⟨b', off' + i * 7 + 6, none⟩) hbw').trans (hcells 6 _ rfl)
        have B0 : Hid (Below wr.heap.size wr ((wr.alloc (.cells #[.int .i64 f0, .bool f1, .slice A2 n2 c2, .int .i64 f3, .slice A4 n4 c4, .int .i64 f5, .slice A6 n6 c6] 97)).alloc (.cells #[.int .i64 g0, .bool g1, .slice B2 m2 k2, .int .i64 g3, .slice B4 m4 k4, .int .i64 g5, .slice B6 m6 k6] 97))) := Lib.hid (by go_grown)
        have HZ := Lib.hid hzi
        have HZ' := Lib.hid hzi'
        have HE2 := Lib.hid (hl2.below B0.out)
        have HR2 := Lib.hid (hr2.below B0.out)
        have HF2 := Lib.hid ht2
        have HG2 := Lib.hid hu2
        have HE4 := Lib.hid (hl4.below B0.out)
        have HR4 := Lib.hid (hr4.below B0.out)
        have HF4 := Lib.hid ht4
        have HG4 := Lib.hid hu4
        have HE6 := Lib.hid (hl6.below B0.out)
        have HR6 := Lib.hid (hr6.below B0.out)
        have HF6 := Lib.hid ht6
        have HG6 := Lib.hid hu6
        clear hzi hzi' hcellr hcells hlie hlie' hbw' hl2 hr2 ht2 hu2 hl4 hr4 ht4 hu4 hl6 hr6 ht6 hu6
        obtain ⟨v, hv⟩ : ∃ v, eq1 (.r [.i f0, .b f1, .l L2, .i f3, .l L4, .i f5, .l L6]) (.r [.i g0, .b g1, .l M2, .i g3, .l M4, .i g5, .l M6]) = v := ⟨_, rfl⟩
        have HV := Lib.hid hv
        clear hv
        go_wp2_with fail
        refine (implEqLink f0 f1 L2 A2 n2 c2 f3 L4 A4 n4 c4 f5 L6 A6 n6 c6 g0 g1 M2 B2 m2 k2 g3 M4 B4 m4 k4 g5 M6 B6 m6 k6 _ HE2.out HR2.out HF2.out HG2.out hq2 HE4.out HR4.out HF4.out HG4.out hq4 HE6.out HR6.out HF6.out HG6.out hq6).mono ?_
        rintro e w2 ⟨rfl, hb⟩
        rw [HV.out]
        have HB2 := Lib.hid (HB.out.trans ((B0.out.trans (hb.mono B0.out.size)).mono HB.out.size))
        clear hb
        cases v with
        | true =>
          have HN : Hid (L.take (i + 1) = M.take (i + 1)) := Lib.hid (by
            have e9 := eq1_iff.1 HV.out
            exact take_nextD HA.out HZ.out (by rw [HZ'.out, ← e9]))
          go_wp2_with fail
          go_roundw
          case rel => exact ⟨i + 1, by omega, by go_num, HN.out, HB2.out⟩
          case measure => (simp [intOf]; try omega)
        | false =>
          have HN : Hid (false = eqD L M) := Lib.hid (eqD_at HZ.out HZ'.out (fun e9 => by have h9 := HV.out; rw [e9, eq1_yes] at h9; cases h9)).symm
          go_wp2_with fail
          go_ret
          exact GivesBool.of HN.out HB2.out
      · obtain rfl : n = i := by omega
        have HN : Hid (true = eqD L M) := Lib.hid (eqD_all HC.out HC'.out HA.out).symm
        go_wp2_with fail
        go_ret
        exact GivesBool.of HN.out HB.out
  · have hb1 : ((n : Int) == m) = false := by rw [beq_eq_false_iff_ne]; omega
    have hb2 : ((n : Int) != m) = true := by rw [bne_iff_ne]; omega
    have HN : Hid (false = eqD L M) := Lib.hid (eqD_len HC.out HC'.out hnm).symm
    clear hnm
    go_enter Try.func63, Try.ntmps63
    go_wp2
    go_ret
    exact GivesBool.of HN.out (Below.refl _ _)
set_option maxRecDepth 100000 in
set_option maxHeartbeats 8000000 in
theorem eqOuts (L M : List Dat) (A B : Option Addr) (n c m k : Nat) (w : World) (h : Lies w (.l L) [.slice A n c]) (h' : Lies w (.l M) [.slice B m k]) (ht : ∀ x ∈ L, Has tyOutgoing x) (ht' : ∀ x ∈ M, Has tyOutgoing x) (hq : (Dat.l L).bulk ≤ 1099511627776) (hm : m ≤ 9223372036854775807) :
    Calls Try.prog 65 #[.slice A n c, .slice B m k, .func (.func 66) #[] #[]] w (GivesBool (eqD L M) w) := by
  have H := Lib.hid h
  have H' := Lib.hid h'
  have HT := Lib.hid ht
  have HT' := Lib.hid ht'
  have HC := Lib.hid h.count
  have HC' := Lib.hid h'.count
  have HQ := Lib.hid hq
  have hn : n ≤ 1099511627776 := by have := h.count; simp only [Dat.bulk] at hq; omega
  clear h h' ht ht' hq
  by_cases hnm : n = m
  · subst hnm
    go_enter Try.func65, Try.ntmps65
    go_wp2
    go_loopw [17] (fun iv wr => ∃ i : Nat, i ≤ n ∧ iv = .int .i64 i ∧ L.take i = M.take i ∧ Below w.heap.size w wr) (fun iv _ => n - (intOf iv).toNat)
    case atStart => exact ⟨0, Nat.zero_le _, rfl, rfl, Below.refl _ _⟩
    case round =>
      obtain ⟨i, hin, rfl, hal, hb⟩ := hrel
      have HB := Lib.hid hb
      have HA := Lib.hid hal
      clear hb hal
      by_cases hlt : i < n
      · obtain ⟨b, off, d, xs, rfl, hbw, hzi, hlie, hlen, hcellr⟩ := (H.out.below HB.out).elem (fun x hx => (HT.out x hx).width) hlt
        obtain ⟨b', off', d', xs', rfl, hbw', hzi', hlie', hlen', hcells⟩ := (H'.out.below HB.out).elem (fun x hx => (HT'.out x hx).width) hlt
        obtain ⟨g0, g1_0, g1_1, g1_2, g1_3, g1_4, M1_5, B1_5, m1_5, k1_5, g1_6_0, g1_6_1, g1_7, g1_8_0, g1_8_1, g1_8_2, rfl, rfl, -, hr1_5, hu1_5, hv1_5⟩ := invOutgoing (HT'.out d' (List.mem_of_getElem? hzi')) hlie'
        obtain ⟨f0, f1_0, f1_1, f1_2, f1_3, f1_4, L1_5, A1_5, n1_5, c1_5, f1_6_0, f1_6_1, f1_7, f1_8_0, f1_8_1, f1_8_2, rfl, rfl, -, hl1_5, ht1_5, -⟩ := invOutgoing (HT.out d (List.mem_of_getElem? hzi)) hlie
        have hq1_5 : n1_5 ≤ 1099511627776 := by have h1 := bulk_mem (List.mem_of_getElem? hzi); have h2 := hl1_5.count; have h3 := HQ.out; simp only [Dat.bulk, bulkAll] at h1 h3; omega
        have r0 : wr.cell? ⟨b, off + i * 13, none⟩ = some (.int .i64 f0) := hcellr 0 _ rfl
        have r1 : wr.cell? ⟨b, off + i * 13 + 1, none⟩ = some (.int .i64 f1_0) := hcellr 1 _ rfl
        have r2 : wr.cell? ⟨b, off + i * 13 + 2, none⟩ = some (.int .i64 f1_1) := hcellr 2 _ rfl
        have r3 : wr.cell? ⟨b, off + i * 13 + 3, none⟩ = some (.int .i64 f1_2) := hcellr 3 _ rfl
        have r4 : wr.cell? ⟨b, off + i * 13 + 4, none⟩ = some (.int .i64 f1_3) := hcellr 4 _ rfl
        have r5 : wr.cell? ⟨b, off + i * 13 + 5, none⟩ = some (.string f1_4) := hcellr 5 _ rfl
        have r6 : wr.cell? ⟨b, off + i * 13 + 6, none⟩ = some (.slice A1_5 n1_5 c1_5) := hcellr 6 _ rfl
        have r7 : wr.cell? ⟨b, off + i * 13 + 7, none⟩ = some (.int .i64 f1_6_0) := hcellr 7 _ rfl
        have r8 : wr.cell? ⟨b, off + i * 13 + 8, none⟩ = some (.int .i64 f1_6_1) := hcellr 8 _ rfl
        have r9 : wr.cell? ⟨b, off + i * 13 + 9, none⟩ = some (.int .i64 f1_7) := hcellr 9 _ rfl
        have r10 : wr.cell? ⟨b, off + i * 13 + 10, none⟩ = some (.int .i64 f1_8_0) := hcellr 10 _ rfl
        have r11 : wr.cell? ⟨b, off + i * 13 + 11, none⟩ = some (.int .i64 f1_8_1) := hcellr 11 _ rfl
        have r12 : wr.cell? ⟨b, off + i * 13 + 12, none⟩ = some (.int .i64 f1_8_2) := hcellr 12 _ rfl
        have t0 := fun o => (((Below.refl wr.heap.size wr).alloc (Nat.le_refl _) o).cell (p := ⟨b', off' + i * 13, none⟩) hbw').trans (hcells 0 _ rfl)
        have t1 := fun o => (((Below.refl wr.heap.size wr).alloc (Nat.le_refl _) o).cell (p := ⟨b', off' + i * 13 + 1, none⟩) hbw').trans (hcells 1 _ rfl)
        have t2 := fun o => (((Below.refl wr.heap.size wr).alloc (Nat.le_refl _) o).cell (p := ⟨b', off' + i * 13 + 2, none⟩) hbw').trans (hcells 2 _ rfl)
        have t3 := fun o => (((Below.refl wr.heap.size wr).alloc (Nat.le_refl _) o).cell (p := ⟨b', off' + i * 13 + 3, none⟩) hbw').trans (hcells 3 _ rfl)
        have t4 := fun o => (((Below.refl wr.heap.size wr).alloc (Nat.le_refl _) o).cell (p := ⟨b', off' + i * 13 + 4, none⟩) hbw').trans (hcells 4 _ rfl)
        have t5 := fun o => (((Below.refl wr.heap.size wr).alloc (Nat.le_refl _) o).cell (p := ⟨b', off' + i * 13 + 5, none⟩) hbw').trans (hcells 5 _ rfl)
        have t6 := fun o => (((Below.refl wr.heap.size wr).alloc (Nat.le_refl _) o).cell (p := ⟨b', off' + i * 13 + 6, none⟩) hbw').trans (hcells 6 _ rfl)
        have t7 := fun o => (((Below.refl wr.heap.size wr).alloc (Nat.le_refl _) o).cell (p := ⟨b', off' + i * 13 + 7, none⟩) hbw').trans (hcells 7 _ rfl)
        have t8 := fun o => (((Below.refl wr.heap.size wr).alloc (Nat.le_refl _) o).cell (p := ⟨b', off' + i * 13 + 8, none⟩) hbw').trans (hcells 8 _ rfl)
        have t9 := fun o => (((Below.refl wr.heap.size wr).alloc (Nat.le_refl _) o).cell (p := ⟨b', off' + i * 13 + 9, none⟩) hbw').trans (hcells 9 _ rfl)
        have t10 := fun o => (((Below.refl wr.heap.size wr).alloc (Nat.le_refl _) o).cell (p := ⟨b', off' + i * 13 + 10, none⟩) hbw').trans (hcells 10 _ rfl)
        have t11 := fun o => (((Below.refl wr.heap.size wr).alloc (Nat.le_refl _) o).cell (p := ⟨b', off' + i * 13 + 11, none⟩) hbw').trans (hcells 11 _ rfl)
        have t12 := fun o => (((Below.refl wr.heap.size wr).alloc (Nat.le_refl _) o).cell (p := ⟨b', off' + i * 13 + 12, none⟩) hbw').trans (hcells 12 _ rfl)
        have B0 : Hid (Below wr.heap.size wr ((wr.alloc (.cells #[.int .i64 f0, .int .i64 f1_0, .int .i64 f1_1, .int .i64 f1_2, .int .i64 f1_3, .string f1_4, .slice A1_5 n1_5 c1_5, .int .i64 f1_6_0, .int .i64 f1_6_1, .int .i64 f1_7, .int .i64 f1_8_0, .int .i64 f1_8_1, .int .i64 f1_8_2] 114)).alloc (.cells #[.int .i64 g0, .int .i64 g1_0, .int .i64 g1_1, .int .i64 g1_2, .int .i64 g1_3, .string g1_4, .slice B1_5 m1_5 k1_5, .int .i64 g1_6_0, .int .i64 g1_6_1, .int .i64 g1_7, .int .i64 g1_8_0, .int .i64 g1_8_1, .int .i64 g1_8_2] 114))) := Lib.hid (by go_grown)
        have HZ := Lib.hid hzi
        have HZ' := Lib.hid hzi'
        have HE1_5 := Lib.hid (hl1_5.below B0.out)
        have HR1_5 := Lib.hid (hr1_5.below B0.out)
        have HF1_5 := Lib.hid ht1_5
        have HG1_5 := Lib.hid hu1_5
        clear hzi hzi' hcellr hcells hlie hlie' hbw' hl1_5 hr1_5 ht1_5 hu1_5
        obtain ⟨v, hv⟩ : ∃ v, eq1 (.r [.i f0, .r [.i f1_0, .i f1_1, .i f1_2, .i f1_3, .s f1_4, .l L1_5, .r [.i f1_6_0, .i f1_6_1], .i f1_7, .r [.i f1_8_0, .i f1_8_1, .i f1_8_2]]]) (.r [.i g0, .r [.i g1_0, .i g1_1, .i g1_2, .i g1_3, .s g1_4, .l M1_5, .r [.i g1_6_0, .i g1_6_1], .i g1_7, .r [.i g1_8_0, .i g1_8_1, .i g1_8_2]]]) = v := ⟨_, rfl⟩
        have HV := Lib.hid hv
        clear hv
        go_wp2_with fail
        refine (implEqOut f0 f1_0 f1_1 f1_2 f1_3 f1_4 L1_5 A1_5 n1_5 c1_5 f1_6_0 f1_6_1 f1_7 f1_8_0 f1_8_1 f1_8_2 g0 g1_0 g1_1 g1_2 g1_3 g1_4 M1_5 B1_5 m1_5 k1_5 g1_6_0 g1_6_1 g1_7 g1_8_0 g1_8_1 g1_8_2 _ HE1_5.out HR1_5.out HF1_5.out HG1_5.out hq1_5).mono ?_
        rintro e w2 ⟨rfl, hb⟩
        rw [HV.out]
        have HB2 := Lib.hid (HB.out.trans ((B0.out.trans (hb.mono B0.out.size)).mono HB.out.size))
        clear hb
        cases v with
        | true =>
          have HN : Hid (L.take (i + 1) = M.take (i + 1)) := Lib.hid (by
            have e9 := eq1_iff.1 HV.out
            exact take_nextD HA.out HZ.out (by rw [HZ'.out, ← e9]))
          go_wp2_with fail
          go_roundw
          case rel => exact ⟨i + 1, by omega, by go_num, HN.out, HB2.out⟩
          case measure => (simp [intOf]; try omega)
        | false =>
          have HN : Hid (false = eqD L M) := Lib.hid (eqD_at HZ.out HZ'.out (fun e9 => by have h9 := HV.out; rw [e9, eq1_yes] at h9; cases h9)).symm
          go_wp2_with fail
          go_ret
          exact GivesBool.of HN.out HB2.out
      · obtain rfl : n = i := by omega
        have HN : Hid (true = eqD L M) := Lib.hid (eqD_all HC.out HC'.out HA.out).symm
        go_wp2_with fail
        go_ret
        exact GivesBool.of HN.out HB.out
  · have hb1 : ((n : Int) == m) = false := by rw [beq_eq_false_iff_ne]; omega
    have hb2 : ((n : Int) != m) = true := by rw [bne_iff_ne]; omega
    have HN : Hid (false = eqD L M) := Lib.hid (eqD_len HC.out HC'.out hnm).symm
    clear hnm
    go_enter Try.func65, Try.ntmps65
    go_wp2
    go_ret
    exact GivesBool.of HN.out (Below.refl _ _)
end Go.Proofs.Ytmeacgpebpfpbaa
