/- Chapter 12's data, by program. Chapter 12's data, by program. -/
import Derived.Test.YtmeacgpebpfpbaaTyE4
import Derived.Test.YtmeacgpebpfpbaaTyG4
import Derived.Test.YtmeacgpebpfpbaaTyM4
import Derived.Test.YtmeacgpebpfpbaaTyV0
import Derived.LoopTactic
import Derived.Lib.Hide
import Derived.Deep.QuietTactic
import Derived.BigQuiet
import Derived.Deep.RegionWith
import Derived.Handy
section
namespace Go.Proofs.Ytmeacgpebpfpbaa
open Go.RowKit
set_option linter.unusedVariables false
set_option linter.unusedSimpArgs false
set_option maxRecDepth 100000 in
set_option maxHeartbeats 4000000 in
theorem eqEntityS (L : List Dat) (A A' : Option Addr) (n n' c c' : Nat) (w : World) (h : Lies w (.l L) [.slice A n c]) (h' : Lies w (.l L) [.slice A' n' c']) (ht : ∀ x ∈ L, Has tyEntity x) (hn : n ≤ 9223372036854775807) : Calls Try.prog 73 #[.slice A n c, .slice A' n' c'] w (GivesBool true w) := by
  obtain rfl : n = n' := by rw [← h.count, ← h'.count]
  have H := Lib.hid h
  have H' := Lib.hid h'
  have HT := Lib.hid ht
  clear h h' ht
  go_enter Try.func73, Try.ntmps73
  go_wp2
  go_loopw [5] (fun iv wr => ∃ i : Nat, i ≤ n ∧ iv = .int .i64 i ∧ Below w.heap.size w wr) (fun iv _ => n - (intOf iv).toNat)
  case atStart => exact ⟨0, Nat.zero_le _, rfl, Below.refl _ _⟩
  case round =>
    obtain ⟨i, hin, rfl, hb⟩ := hrel
    by_cases hlt : i < n
    · obtain ⟨b, off, d, xs, rfl, hbw, hzi, hlie, hlen, hcellr⟩ := (H.out.below hb).elem (fun x hx => (HT.out x hx).width) hlt
      obtain ⟨b', off', d', xs', rfl, hbw', hzi', hlie', hlen', hcells⟩ := (H'.out.below hb).elem (fun x hx => (HT.out x hx).width) hlt
      obtain rfl : d = d' := by rw [hzi] at hzi'; exact Option.some.inj hzi'
      obtain ⟨g0, g1, M2, B2, m2, k2, g3, g4_0, g4_1, M5, B5, m5, k5, M6, B6, m6, k6, g7, g8, g9, g10, hdd, rfl, hr2, _hu2, _hv2, hr5, _hu5, _hv5, hr6, _hu6, _hv6⟩ := invEntity (HT.out d (List.mem_of_getElem? hzi)) hlie'
      obtain ⟨f0, f1, L2, A2, n2, c2, f3, f4_0, f4_1, L5, A5, n5, c5, L6, A6, n6, c6, f7, f8, f9, f10, rfl, rfl, hl2, ht2, hm2, hl5, ht5, hm5, hl6, ht6, hm6⟩ := invEntity (HT.out d (List.mem_of_getElem? hzi)) hlie
      simp only [Dat.r.injEq, List.cons.injEq, and_true] at hdd
      obtain ⟨e0, e1, e2, e3, ⟨e4_0, e4_1⟩, e5, e6, e7, e8, e9, e10⟩ := hdd
      obtain rfl : f0 = g0 := by injection e0
      obtain rfl : f1 = g1 := by injection e1
      obtain rfl : L2 = M2 := by injection e2
      obtain rfl : n2 = m2 := by rw [← hl2.count, ← hr2.count]
      obtain rfl : f3 = g3 := by injection e3
      obtain rfl : f4_0 = g4_0 := by injection e4_0
      obtain rfl : f4_1 = g4_1 := by injection e4_1
      obtain rfl : L5 = M5 := by injection e5
      obtain rfl : n5 = m5 := by rw [← hl5.count, ← hr5.count]
      obtain rfl : L6 = M6 := by injection e6
      obtain rfl : n6 = m6 := by rw [← hl6.count, ← hr6.count]
      obtain rfl : f7 = g7 := by injection e7
      obtain rfl : f8 = g8 := by injection e8
      obtain rfl : f9 = g9 := by injection e9
      obtain rfl : f10 = g10 := by injection e10
      have r0 : wr.cell? ⟨b, off + i * 12, none⟩ = some (.int .i64 f0) := hcellr 0 _ rfl
      have r1 : wr.cell? ⟨b, off + i * 12 + 1, none⟩ = some (.int .i64 f1) := hcellr 1 _ rfl
      have r2 : wr.cell? ⟨b, off + i * 12 + 2, none⟩ = some (.slice A2 n2 c2) := hcellr 2 _ rfl
      have r3 : wr.cell? ⟨b, off + i * 12 + 3, none⟩ = some (.int .i64 f3) := hcellr 3 _ rfl
      have r4 : wr.cell? ⟨b, off + i * 12 + 4, none⟩ = some (.int .i64 f4_0) := hcellr 4 _ rfl
      have r5 : wr.cell? ⟨b, off + i * 12 + 5, none⟩ = some (.int .i64 f4_1) := hcellr 5 _ rfl
      have r6 : wr.cell? ⟨b, off + i * 12 + 6, none⟩ = some (.slice A5 n5 c5) := hcellr 6 _ rfl
      have r7 : wr.cell? ⟨b, off + i * 12 + 7, none⟩ = some (.slice A6 n6 c6) := hcellr 7 _ rfl
      have r8 : wr.cell? ⟨b, off + i * 12 + 8, none⟩ = some (.int .i64 f7) := hcellr 8 _ rfl
      have r9 : wr.cell? ⟨b, off + i * 12 + 9, none⟩ = some (.int .i64 f8) := hcellr 9 _ rfl
      have r10 : wr.cell? ⟨b, off + i * 12 + 10, none⟩ = some (.int .i64 f9) := hcellr 10 _ rfl
      have r11 : wr.cell? ⟨b, off + i * 12 + 11, none⟩ = some (.int .i64 f10) := hcellr 11 _ rfl
      have s0 : wr.cell? ⟨b', off' + i * 12, none⟩ = some (.int .i64 f0) := hcells 0 _ rfl
      have s1 : wr.cell? ⟨b', off' + i * 12 + 1, none⟩ = some (.int .i64 f1) := hcells 1 _ rfl
      have s2 : wr.cell? ⟨b', off' + i * 12 + 2, none⟩ = some (.slice B2 n2 k2) := hcells 2 _ rfl
      have s3 : wr.cell? ⟨b', off' + i * 12 + 3, none⟩ = some (.int .i64 f3) := hcells 3 _ rfl
      have s4 : wr.cell? ⟨b', off' + i * 12 + 4, none⟩ = some (.int .i64 f4_0) := hcells 4 _ rfl
      have s5 : wr.cell? ⟨b', off' + i * 12 + 5, none⟩ = some (.int .i64 f4_1) := hcells 5 _ rfl
      have s6 : wr.cell? ⟨b', off' + i * 12 + 6, none⟩ = some (.slice B5 n5 k5) := hcells 6 _ rfl
      have s7 : wr.cell? ⟨b', off' + i * 12 + 7, none⟩ = some (.slice B6 n6 k6) := hcells 7 _ rfl
      have s8 : wr.cell? ⟨b', off' + i * 12 + 8, none⟩ = some (.int .i64 f7) := hcells 8 _ rfl
      have s9 : wr.cell? ⟨b', off' + i * 12 + 9, none⟩ = some (.int .i64 f8) := hcells 9 _ rfl
      have s10 : wr.cell? ⟨b', off' + i * 12 + 10, none⟩ = some (.int .i64 f9) := hcells 10 _ rfl
      have s11 : wr.cell? ⟨b', off' + i * 12 + 11, none⟩ = some (.int .i64 f10) := hcells 11 _ rfl
      have HBR := Lib.hid hb
      have HL2 := Lib.hid (hl2.drew)
      have HR2 := Lib.hid (hr2.drew)
      have HX2 := Lib.hid ht2
      have HL5 := Lib.hid (hl5.drew)
      have HR5 := Lib.hid (hr5.drew)
      have HX5 := Lib.hid ht5
      have HL6 := Lib.hid (hl6.drew)
      have HR6 := Lib.hid (hr6.drew)
      have HX6 := Lib.hid ht6
      clear hzi hzi' hb hcellr hcells hlie hlie' hl2 hr2 ht2 _hu2 hl5 hr5 ht5 _hu5 hl6 hr6 ht6 _hu6
      go_wp2_with fail
      go_region_with (
        go_at_call 38
        refine (eqEntity f0 f1 L2 A2 n2 c2 f3 f4_0 f4_1 L5 A5 n5 c5 L6 A6 n6 c6 f7 f8 f9 f10 B2 k2 B5 k5 B6 k6 _ HL2.out HR2.out HX2.out hm2 HL5.out HR5.out HX5.out hm5 HL6.out HR6.out HX6.out hm6).mono ?_
        rintro e w2 ⟨rfl, hb2⟩
        have HB2 : Hid (Below w.heap.size w w2) := Lib.hid (HBR.out.drew.trans (hb2.mono HBR.out.size))
        clear hb2)
      all_goals (
        go_wp2_with fail
        go_roundw
        case rel => exact ⟨i + 1, by omega, by go_num, HB2.out⟩
        case measure => simp [intOf]; omega)
    · have HB := Lib.hid hb
      clear hb
      go_wp2
      go_ret
      exact GivesBool.ret HB.out
set_option maxRecDepth 100000 in
set_option maxHeartbeats 4000000 in
theorem eqLinkS (L : List Dat) (A A' : Option Addr) (n n' c c' : Nat) (w : World) (h : Lies w (.l L) [.slice A n c]) (h' : Lies w (.l L) [.slice A' n' c']) (ht : ∀ x ∈ L, Has tyLink x) (hn : n ≤ 9223372036854775807) : Calls Try.prog 75 #[.slice A n c, .slice A' n' c'] w (GivesBool true w) := by
  obtain rfl : n = n' := by rw [← h.count, ← h'.count]
  have H := Lib.hid h
  have H' := Lib.hid h'
  have HT := Lib.hid ht
  clear h h' ht
  go_enter Try.func75, Try.ntmps75
  go_wp2
  go_loopw [5] (fun iv wr => ∃ i : Nat, i ≤ n ∧ iv = .int .i64 i ∧ Below w.heap.size w wr) (fun iv _ => n - (intOf iv).toNat)
  case atStart => exact ⟨0, Nat.zero_le _, rfl, Below.refl _ _⟩
  case round =>
    obtain ⟨i, hin, rfl, hb⟩ := hrel
    by_cases hlt : i < n
    · obtain ⟨b, off, d, xs, rfl, hbw, hzi, hlie, hlen, hcellr⟩ := (H.out.below hb).elem (fun x hx => (HT.out x hx).width) hlt
      obtain ⟨b', off', d', xs', rfl, hbw', hzi', hlie', hlen', hcells⟩ := (H'.out.below hb).elem (fun x hx => (HT.out x hx).width) hlt
      obtain rfl : d = d' := by rw [hzi] at hzi'; exact Option.some.inj hzi'
      obtain ⟨g0, g1, M2, B2, m2, k2, g3, M4, B4, m4, k4, g5, M6, B6, m6, k6, hdd, rfl, hr2, _hu2, _hv2, hr4, _hu4, _hv4, hr6, _hu6, _hv6⟩ := invLink (HT.out d (List.mem_of_getElem? hzi)) hlie'
      obtain ⟨f0, f1, L2, A2, n2, c2, f3, L4, A4, n4, c4, f5, L6, A6, n6, c6, rfl, rfl, hl2, ht2, hm2, hl4, ht4, hm4, hl6, ht6, hm6⟩ := invLink (HT.out d (List.mem_of_getElem? hzi)) hlie
      simp only [Dat.r.injEq, List.cons.injEq, and_true] at hdd
      obtain ⟨e0, e1, e2, e3, e4, e5, e6⟩ := hdd
      obtain rfl : f0 = g0 := by injection e0
      obtain rfl : f1 = g1 := by injection e1
      obtain rfl : L2 = M2 := by injection e2
      obtain rfl : n2 = m2 := by rw [← hl2.count, ← hr2.count]
      obtain rfl : f3 = g3 := by injection e3
      obtain rfl : L4 = M4 := by injection e4
      obtain rfl : n4 = m4 := by rw [← hl4.count, ← hr4.count]
      obtain rfl : f5 = g5 := by injection e5
      obtain rfl : L6 = M6 := by injection e6
      obtain rfl : n6 = m6 := by rw [← hl6.count, ← hr6.count]
      have r0 : wr.cell? ⟨b, off + i * 7, none⟩ = some (.int .i64 f0) := hcellr 0 _ rfl
      have r1 : wr.cell? ⟨b, off + i * 7 + 1, none⟩ = some (.bool f1) := hcellr 1 _ rfl
      have r2 : wr.cell? ⟨b, off + i * 7 + 2, none⟩ = some (.slice A2 n2 c2) := hcellr 2 _ rfl
      have r3 : wr.cell? ⟨b, off + i * 7 + 3, none⟩ = some (.int .i64 f3) := hcellr 3 _ rfl
      have r4 : wr.cell? ⟨b, off + i * 7 + 4, none⟩ = some (.slice A4 n4 c4) := hcellr 4 _ rfl
      have r5 : wr.cell? ⟨b, off + i * 7 + 5, none⟩ = some (.int .i64 f5) := hcellr 5 _ rfl
      have r6 : wr.cell? ⟨b, off + i * 7 + 6, none⟩ = some (.slice A6 n6 c6) := hcellr 6 _ rfl
      have s0 : wr.cell? ⟨b', off' + i * 7, none⟩ = some (.int .i64 f0) := hcells 0 _ rfl
      have s1 : wr.cell? ⟨b', off' + i * 7 + 1, none⟩ = some (.bool f1) := hcells 1 _ rfl
      have s2 : wr.cell? ⟨b', off' + i * 7 + 2, none⟩ = some (.slice B2 n2 k2) := hcells 2 _ rfl
      have s3 : wr.cell? ⟨b', off' + i * 7 + 3, none⟩ = some (.int .i64 f3) := hcells 3 _ rfl
      have s4 : wr.cell? ⟨b', off' + i * 7 + 4, none⟩ = some (.slice B4 n4 k4) := hcells 4 _ rfl
      have s5 : wr.cell? ⟨b', off' + i * 7 + 5, none⟩ = some (.int .i64 f5) := hcells 5 _ rfl
      have s6 : wr.cell? ⟨b', off' + i * 7 + 6, none⟩ = some (.slice B6 n6 k6) := hcells 6 _ rfl
      have HBR := Lib.hid hb
      have HL2 := Lib.hid (hl2.drew)
      have HR2 := Lib.hid (hr2.drew)
      have HX2 := Lib.hid ht2
      have HL4 := Lib.hid (hl4.drew)
      have HR4 := Lib.hid (hr4.drew)
      have HX4 := Lib.hid ht4
      have HL6 := Lib.hid (hl6.drew)
      have HR6 := Lib.hid (hr6.drew)
      have HX6 := Lib.hid ht6
      clear hzi hzi' hb hcellr hcells hlie hlie' hl2 hr2 ht2 _hu2 hl4 hr4 ht4 _hu4 hl6 hr6 ht6 _hu6
      go_wp2_with fail
      go_region_with (
        go_at_call 136
        refine (eqLink f0 f1 L2 A2 n2 c2 f3 L4 A4 n4 c4 f5 L6 A6 n6 c6 B2 k2 B4 k4 B6 k6 _ HL2.out HR2.out HX2.out hm2 HL4.out HR4.out HX4.out hm4 HL6.out HR6.out HX6.out hm6).mono ?_
        rintro e w2 ⟨rfl, hb2⟩
        have HB2 : Hid (Below w.heap.size w w2) := Lib.hid (HBR.out.drew.trans (hb2.mono HBR.out.size))
        clear hb2)
      all_goals (
        go_wp2_with fail
        go_roundw
        case rel => exact ⟨i + 1, by omega, by go_num, HB2.out⟩
        case measure => simp [intOf]; omega)
    · have HB := Lib.hid hb
      clear hb
      go_wp2
      go_ret
      exact GivesBool.ret HB.out
set_option maxHeartbeats 4000000 in
theorem eqOutgoing (f0 : Int) (f1_0 : Int) (f1_1 : Int) (f1_2 : Int) (f1_3 : Int) (f1_4 : ByteArray) (L1_5 : List Dat) (A1_5 : Option Addr) (n1_5 c1_5 : Nat) (f1_6_0 : Int) (f1_6_1 : Int) (f1_7 : Int) (f1_8_0 : Int) (f1_8_1 : Int) (f1_8_2 : Int) (B1_5 : Option Addr) (k1_5 : Nat) (w : World) (hl1_5 : Lies w (.l L1_5) [.slice A1_5 n1_5 c1_5]) (hr1_5 : Lies w (.l L1_5) [.slice B1_5 n1_5 k1_5]) (ht1_5 : ∀ x ∈ L1_5, Has tyWire x) (hm1_5 : n1_5 ≤ 9223372036854775807) : Calls Try.prog 137 #[.agg #[.int .i64 f0, .int .i64 f1_0, .int .i64 f1_1, .int .i64 f1_2, .int .i64 f1_3, .string f1_4, .slice A1_5 n1_5 c1_5, .int .i64 f1_6_0, .int .i64 f1_6_1, .int .i64 f1_7, .int .i64 f1_8_0, .int .i64 f1_8_1, .int .i64 f1_8_2], .agg #[.int .i64 f0, .int .i64 f1_0, .int .i64 f1_1, .int .i64 f1_2, .int .i64 f1_3, .string f1_4, .slice B1_5 n1_5 k1_5, .int .i64 f1_6_0, .int .i64 f1_6_1, .int .i64 f1_7, .int .i64 f1_8_0, .int .i64 f1_8_1, .int .i64 f1_8_2]] w (GivesBool true w) := by
  have HL1_5 := Lib.hid hl1_5
  have HR1_5 := Lib.hid hr1_5
  have HT1_5 := Lib.hid ht1_5
  clear hl1_5 hr1_5 ht1_5
  have X := ((Held.start w).push #[.int .i64 f0, .int .i64 f1_0, .int .i64 f1_1, .int .i64 f1_2, .int .i64 f1_3, .string f1_4, .slice A1_5 n1_5 c1_5, .int .i64 f1_6_0, .int .i64 f1_6_1, .int .i64 f1_7, .int .i64 f1_8_0, .int .i64 f1_8_1, .int .i64 f1_8_2] 114).push #[.int .i64 f0, .int .i64 f1_0, .int .i64 f1_1, .int .i64 f1_2, .int .i64 f1_3, .string f1_4, .slice B1_5 n1_5 k1_5, .int .i64 f1_6_0, .int .i64 f1_6_1, .int .i64 f1_7, .int .i64 f1_8_0, .int .i64 f1_8_1, .int .i64 f1_8_2] 114
  simp only [World.size_alloc] at X
  replace X := Lib.hid X
  go_enter Try.func137, Try.ntmps137
  go_wp2_with fail
  refine (eqMessage f1_0 f1_1 f1_2 f1_3 f1_4 L1_5 A1_5 n1_5 c1_5 f1_6_0 f1_6_1 f1_7 f1_8_0 f1_8_1 f1_8_2 B1_5 k1_5 _ (HL1_5.out.below X.out.1) (HR1_5.out.below X.out.1) HT1_5.out hm1_5).mono ?_
  rintro e w1 ⟨rfl, hb⟩
  replace X := Lib.hid (X.out.below hb)
  clear hb
  go_wp2_with fail
  go_ret
  exact GivesBool.ret X.out.1
set_option maxRecDepth 100000 in
set_option maxHeartbeats 4000000 in
theorem eqOutgoingS (L : List Dat) (A A' : Option Addr) (n n' c c' : Nat) (w : World) (h : Lies w (.l L) [.slice A n c]) (h' : Lies w (.l L) [.slice A' n' c']) (ht : ∀ x ∈ L, Has tyOutgoing x) (hn : n ≤ 9223372036854775807) : Calls Try.prog 76 #[.slice A n c, .slice A' n' c'] w (GivesBool true w) := by
  obtain rfl : n = n' := by rw [← h.count, ← h'.count]
  have H := Lib.hid h
  have H' := Lib.hid h'
  have HT := Lib.hid ht
  clear h h' ht
  go_enter Try.func76, Try.ntmps76
  go_wp2
  go_loopw [5] (fun iv wr => ∃ i : Nat, i ≤ n ∧ iv = .int .i64 i ∧ Below w.heap.size w wr) (fun iv _ => n - (intOf iv).toNat)
  case atStart => exact ⟨0, Nat.zero_le _, rfl, Below.refl _ _⟩
  case round =>
    obtain ⟨i, hin, rfl, hb⟩ := hrel
    by_cases hlt : i < n
    · obtain ⟨b, off, d, xs, rfl, hbw, hzi, hlie, hlen, hcellr⟩ := (H.out.below hb).elem (fun x hx => (HT.out x hx).width) hlt
      obtain ⟨b', off', d', xs', rfl, hbw', hzi', hlie', hlen', hcells⟩ := (H'.out.below hb).elem (fun x hx => (HT.out x hx).width) hlt
      obtain rfl : d = d' := by rw [hzi] at hzi'; exact Option.some.inj hzi'
      obtain ⟨g0, g1_0, g1_1, g1_2, g1_3, g1_4, M1_5, B1_5, m1_5, k1_5, g1_6_0, g1_6_1, g1_7, g1_8_0, g1_8_1, g1_8_2, hdd, rfl, _hf1_4, hr1_5, _hu1_5, _hv1_5⟩ := invOutgoing (HT.out d (List.mem_of_getElem? hzi)) hlie'
      obtain ⟨f0, f1_0, f1_1, f1_2, f1_3, f1_4, L1_5, A1_5, n1_5, c1_5, f1_6_0, f1_6_1, f1_7, f1_8_0, f1_8_1, f1_8_2, rfl, rfl, hf1_4, hl1_5, ht1_5, hm1_5⟩ := invOutgoing (HT.out d (List.mem_of_getElem? hzi)) hlie
      simp only [Dat.r.injEq, List.cons.injEq, and_true] at hdd
      obtain ⟨e0, ⟨e1_0, e1_1, e1_2, e1_3, e1_4, e1_5, ⟨e1_6_0, e1_6_1⟩, e1_7, ⟨e1_8_0, e1_8_1, e1_8_2⟩⟩⟩ := hdd
      obtain rfl : f0 = g0 := by injection e0
      obtain rfl : f1_0 = g1_0 := by injection e1_0
      obtain rfl : f1_1 = g1_1 := by injection e1_1
      obtain rfl : f1_2 = g1_2 := by injection e1_2
      obtain rfl : f1_3 = g1_3 := by injection e1_3
      obtain rfl : f1_4 = g1_4 := by injection e1_4
      obtain rfl : L1_5 = M1_5 := by injection e1_5
      obtain rfl : n1_5 = m1_5 := by rw [← hl1_5.count, ← hr1_5.count]
      obtain rfl : f1_6_0 = g1_6_0 := by injection e1_6_0
      obtain rfl : f1_6_1 = g1_6_1 := by injection e1_6_1
      obtain rfl : f1_7 = g1_7 := by injection e1_7
      obtain rfl : f1_8_0 = g1_8_0 := by injection e1_8_0
      obtain rfl : f1_8_1 = g1_8_1 := by injection e1_8_1
      obtain rfl : f1_8_2 = g1_8_2 := by injection e1_8_2
      have r0 : wr.cell? ⟨b, off + i * 13, none⟩ = some (.int .i64 f0) := hcellr 0 _ rfl
      have r1 : wr.cell? ⟨b, off + i * 13 + 1, none⟩ = some (.int .i64 f1_0) := hcellr 1 _ rfl
      have r2 : wr.cell? ⟨b, off + i * 13 + 2, none⟩ = some (.int .i64 f1_1) := hcellr 2 _ rfl
      have r3 : wr.cell? ⟨b, off + i * 13 + 3, none⟩ = some (.int .i64 f1_2) := hcellr 3 _ rfl
      have r4 : wr.cell? ⟨b, off + i * 13 + 4, none⟩ = some (.int .i64 f1_3) := hcellr 4 _ rfl
      have r5 : wr.cell? ⟨b, off + i * 13 + 5, none⟩ = some (.string f1_4) := hcellr 5 _ rfl
      have r6 : wr.cell? ⟨b, off + i * 13 + 6, none⟩ = some (.slice A1_5 n1_5 c1_5) := hcellr 6 _ rfl
      have r7 : wr.cell? ⟨b, off + i * 13 + 7, none⟩ = some (.int .i64 f1_6_0) := hcellr 7 _ rfl
      have r8 : wr.cell? ⟨b, off + i * 13 + 8, none⟩ = some (.int .i64 f1_6_1) := hcellr 8 _ rfl
      have r9 : wr.cell? ⟨b, off + i * 13 + 9, none⟩ = some (.int .i64 f1_7) := hcellr 9 _ rfl
      have r10 : wr.cell? ⟨b, off + i * 13 + 10, none⟩ = some (.int .i64 f1_8_0) := hcellr 10 _ rfl
      have r11 : wr.cell? ⟨b, off + i * 13 + 11, none⟩ = some (.int .i64 f1_8_1) := hcellr 11 _ rfl
      have r12 : wr.cell? ⟨b, off + i * 13 + 12, none⟩ = some (.int .i64 f1_8_2) := hcellr 12 _ rfl
      have s0 : wr.cell? ⟨b', off' + i * 13, none⟩ = some (.int .i64 f0) := hcells 0 _ rfl
      have s1 : wr.cell? ⟨b', off' + i * 13 + 1, none⟩ = some (.int .i64 f1_0) := hcells 1 _ rfl
      have s2 : wr.cell? ⟨b', off' + i * 13 + 2, none⟩ = some (.int .i64 f1_1) := hcells 2 _ rfl
      have s3 : wr.cell? ⟨b', off' + i * 13 + 3, none⟩ = some (.int .i64 f1_2) := hcells 3 _ rfl
      have s4 : wr.cell? ⟨b', off' + i * 13 + 4, none⟩ = some (.int .i64 f1_3) := hcells 4 _ rfl
      have s5 : wr.cell? ⟨b', off' + i * 13 + 5, none⟩ = some (.string f1_4) := hcells 5 _ rfl
      have s6 : wr.cell? ⟨b', off' + i * 13 + 6, none⟩ = some (.slice B1_5 n1_5 k1_5) := hcells 6 _ rfl
      have s7 : wr.cell? ⟨b', off' + i * 13 + 7, none⟩ = some (.int .i64 f1_6_0) := hcells 7 _ rfl
      have s8 : wr.cell? ⟨b', off' + i * 13 + 8, none⟩ = some (.int .i64 f1_6_1) := hcells 8 _ rfl
      have s9 : wr.cell? ⟨b', off' + i * 13 + 9, none⟩ = some (.int .i64 f1_7) := hcells 9 _ rfl
      have s10 : wr.cell? ⟨b', off' + i * 13 + 10, none⟩ = some (.int .i64 f1_8_0) := hcells 10 _ rfl
      have s11 : wr.cell? ⟨b', off' + i * 13 + 11, none⟩ = some (.int .i64 f1_8_1) := hcells 11 _ rfl
      have s12 : wr.cell? ⟨b', off' + i * 13 + 12, none⟩ = some (.int .i64 f1_8_2) := hcells 12 _ rfl
      have HBR := Lib.hid hb
      have HL1_5 := Lib.hid (hl1_5.drew)
      have HR1_5 := Lib.hid (hr1_5.drew)
      have HX1_5 := Lib.hid ht1_5
      clear hzi hzi' hb hcellr hcells hlie hlie' hl1_5 hr1_5 ht1_5 _hu1_5
      go_wp2_with fail
      go_region_with (
        go_at_call 137
        refine (eqOutgoing f0 f1_0 f1_1 f1_2 f1_3 f1_4 L1_5 A1_5 n1_5 c1_5 f1_6_0 f1_6_1 f1_7 f1_8_0 f1_8_1 f1_8_2 B1_5 k1_5 _ HL1_5.out HR1_5.out HX1_5.out hm1_5).mono ?_
        rintro e w2 ⟨rfl, hb2⟩
        have HB2 : Hid (Below w.heap.size w w2) := Lib.hid (HBR.out.drew.trans (hb2.mono HBR.out.size))
        clear hb2)
      all_goals (
        go_wp2_with fail
        go_roundw
        case rel => exact ⟨i + 1, by omega, by go_num, HB2.out⟩
        case measure => simp [intOf]; omega)
    · have HB := Lib.hid hb
      clear hb
      go_wp2
      go_ret
      exact GivesBool.ret HB.out
end Go.Proofs.Ytmeacgpebpfpbaa
end
section
namespace Go.Proofs.Ytmeacgpebpfpbaa
open Go.RowKit
set_option linter.unusedVariables false
set_option linter.unusedSimpArgs false
set_option maxHeartbeats 4000000 in
theorem eqVat (f0 : Int) (L1 : List Dat) (A1 : Option Addr) (n1 c1 : Nat) (L2 : List Dat) (A2 : Option Addr) (n2 c2 : Nat) (L3 : List Dat) (A3 : Option Addr) (n3 c3 : Nat) (L4 : List Dat) (A4 : Option Addr) (n4 c4 : Nat) (B1 : Option Addr) (k1 : Nat) (B2 : Option Addr) (k2 : Nat) (B3 : Option Addr) (k3 : Nat) (B4 : Option Addr) (k4 : Nat) (w : World) (hl1 : Lies w (.l L1) [.slice A1 n1 c1]) (hr1 : Lies w (.l L1) [.slice B1 n1 k1]) (ht1 : ∀ x ∈ L1, Has tyEntity x) (hm1 : n1 ≤ 9223372036854775807) (hl2 : Lies w (.l L2) [.slice A2 n2 c2]) (hr2 : Lies w (.l L2) [.slice B2 n2 k2]) (ht2 : ∀ x ∈ L2, Has tySent x) (hm2 : n2 ≤ 9223372036854775807) (hl3 : Lies w (.l L3) [.slice A3 n3 c3]) (hr3 : Lies w (.l L3) [.slice B3 n3 k3]) (ht3 : ∀ x ∈ L3, Has tyLink x) (hm3 : n3 ≤ 9223372036854775807) (hl4 : Lies w (.l L4) [.slice A4 n4 c4]) (hr4 : Lies w (.l L4) [.slice B4 n4 k4]) (ht4 : ∀ x ∈ L4, Has tyOutgoing x) (hm4 : n4 ≤ 9223372036854775807) : Calls Try.prog 23 #[.agg #[.int .i64 f0, .slice A1 n1 c1, .slice A2 n2 c2, .slice A3 n3 c3, .slice A4 n4 c4], .agg #[.int .i64 f0, .slice B1 n1 k1, .slice B2 n2 k2, .slice B3 n3 k3, .slice B4 n4 k4]] w (GivesBool true w) := by
  have HL1 := Lib.hid hl1
  have HR1 := Lib.hid hr1
  have HT1 := Lib.hid ht1
  clear hl1 hr1 ht1
  have HL2 := Lib.hid hl2
  have HR2 := Lib.hid hr2
  have HT2 := Lib.hid ht2
  clear hl2 hr2 ht2
  have HL3 := Lib.hid hl3
  have HR3 := Lib.hid hr3
  have HT3 := Lib.hid ht3
  clear hl3 hr3 ht3
  have HL4 := Lib.hid hl4
  have HR4 := Lib.hid hr4
  have HT4 := Lib.hid ht4
  clear hl4 hr4 ht4
  have X := ((Held.start w).push #[.int .i64 f0, .slice A1 n1 c1, .slice A2 n2 c2, .slice A3 n3 c3, .slice A4 n4 c4] 29).push #[.int .i64 f0, .slice B1 n1 k1, .slice B2 n2 k2, .slice B3 n3 k3, .slice B4 n4 k4] 29
  simp only [World.size_alloc] at X
  replace X := Lib.hid X
  go_enter Try.func23, Try.ntmps23
  go_wp2_with fail
  refine (eqEntityS L1 A1 B1 n1 n1 c1 k1 _ (HL1.out.below X.out.1) (HR1.out.below X.out.1) HT1.out hm1).mono ?_
  rintro e w1 ⟨rfl, hb⟩
  replace X := Lib.hid (X.out.below hb)
  clear hb
  have x0 := X.out.at_ (g := w.heap.size) (i := 0) (v := .int .i64 f0) (cs := [.int .i64 f0, .slice A1 n1 c1, .slice A2 n2 c2, .slice A3 n3 c3, .slice A4 n4 c4]) (by repeat (first | exact List.mem_cons_self | refine List.mem_cons_of_mem _ ?_)) rfl
  have y0 := X.out.at_ (g := w.heap.size + 1) (i := 0) (v := .int .i64 f0) (cs := [.int .i64 f0, .slice B1 n1 k1, .slice B2 n2 k2, .slice B3 n3 k3, .slice B4 n4 k4]) (by repeat (first | exact List.mem_cons_self | refine List.mem_cons_of_mem _ ?_)) rfl
  have x1 := X.out.at_ (g := w.heap.size) (i := 1) (v := .slice A1 n1 c1) (cs := [.int .i64 f0, .slice A1 n1 c1, .slice A2 n2 c2, .slice A3 n3 c3, .slice A4 n4 c4]) (by repeat (first | exact List.mem_cons_self | refine List.mem_cons_of_mem _ ?_)) rfl
  have y1 := X.out.at_ (g := w.heap.size + 1) (i := 1) (v := .slice B1 n1 k1) (cs := [.int .i64 f0, .slice B1 n1 k1, .slice B2 n2 k2, .slice B3 n3 k3, .slice B4 n4 k4]) (by repeat (first | exact List.mem_cons_self | refine List.mem_cons_of_mem _ ?_)) rfl
  have x2 := X.out.at_ (g := w.heap.size) (i := 2) (v := .slice A2 n2 c2) (cs := [.int .i64 f0, .slice A1 n1 c1, .slice A2 n2 c2, .slice A3 n3 c3, .slice A4 n4 c4]) (by repeat (first | exact List.mem_cons_self | refine List.mem_cons_of_mem _ ?_)) rfl
  have y2 := X.out.at_ (g := w.heap.size + 1) (i := 2) (v := .slice B2 n2 k2) (cs := [.int .i64 f0, .slice B1 n1 k1, .slice B2 n2 k2, .slice B3 n3 k3, .slice B4 n4 k4]) (by repeat (first | exact List.mem_cons_self | refine List.mem_cons_of_mem _ ?_)) rfl
  have x3 := X.out.at_ (g := w.heap.size) (i := 3) (v := .slice A3 n3 c3) (cs := [.int .i64 f0, .slice A1 n1 c1, .slice A2 n2 c2, .slice A3 n3 c3, .slice A4 n4 c4]) (by repeat (first | exact List.mem_cons_self | refine List.mem_cons_of_mem _ ?_)) rfl
  have y3 := X.out.at_ (g := w.heap.size + 1) (i := 3) (v := .slice B3 n3 k3) (cs := [.int .i64 f0, .slice B1 n1 k1, .slice B2 n2 k2, .slice B3 n3 k3, .slice B4 n4 k4]) (by repeat (first | exact List.mem_cons_self | refine List.mem_cons_of_mem _ ?_)) rfl
  have x4 := X.out.at_ (g := w.heap.size) (i := 4) (v := .slice A4 n4 c4) (cs := [.int .i64 f0, .slice A1 n1 c1, .slice A2 n2 c2, .slice A3 n3 c3, .slice A4 n4 c4]) (by repeat (first | exact List.mem_cons_self | refine List.mem_cons_of_mem _ ?_)) rfl
  have y4 := X.out.at_ (g := w.heap.size + 1) (i := 4) (v := .slice B4 n4 k4) (cs := [.int .i64 f0, .slice B1 n1 k1, .slice B2 n2 k2, .slice B3 n3 k3, .slice B4 n4 k4]) (by repeat (first | exact List.mem_cons_self | refine List.mem_cons_of_mem _ ?_)) rfl
  go_wp2_with fail
  refine (eqSentS L2 A2 B2 n2 n2 c2 k2 _ (HL2.out.below X.out.1) (HR2.out.below X.out.1) HT2.out hm2).mono ?_
  rintro e w2 ⟨rfl, hb⟩
  clear x0 x1 x2 x3 x4 y0 y1 y2 y3 y4
  replace X := Lib.hid (X.out.below hb)
  clear hb
  have x0 := X.out.at_ (g := w.heap.size) (i := 0) (v := .int .i64 f0) (cs := [.int .i64 f0, .slice A1 n1 c1, .slice A2 n2 c2, .slice A3 n3 c3, .slice A4 n4 c4]) (by repeat (first | exact List.mem_cons_self | refine List.mem_cons_of_mem _ ?_)) rfl
  have y0 := X.out.at_ (g := w.heap.size + 1) (i := 0) (v := .int .i64 f0) (cs := [.int .i64 f0, .slice B1 n1 k1, .slice B2 n2 k2, .slice B3 n3 k3, .slice B4 n4 k4]) (by repeat (first | exact List.mem_cons_self | refine List.mem_cons_of_mem _ ?_)) rfl
  have x1 := X.out.at_ (g := w.heap.size) (i := 1) (v := .slice A1 n1 c1) (cs := [.int .i64 f0, .slice A1 n1 c1, .slice A2 n2 c2, .slice A3 n3 c3, .slice A4 n4 c4]) (by repeat (first | exact List.mem_cons_self | refine List.mem_cons_of_mem _ ?_)) rfl
  have y1 := X.out.at_ (g := w.heap.size + 1) (i := 1) (v := .slice B1 n1 k1) (cs := [.int .i64 f0, .slice B1 n1 k1, .slice B2 n2 k2, .slice B3 n3 k3, .slice B4 n4 k4]) (by repeat (first | exact List.mem_cons_self | refine List.mem_cons_of_mem _ ?_)) rfl
  have x2 := X.out.at_ (g := w.heap.size) (i := 2) (v := .slice A2 n2 c2) (cs := [.int .i64 f0, .slice A1 n1 c1, .slice A2 n2 c2, .slice A3 n3 c3, .slice A4 n4 c4]) (by repeat (first | exact List.mem_cons_self | refine List.mem_cons_of_mem _ ?_)) rfl
  have y2 := X.out.at_ (g := w.heap.size + 1) (i := 2) (v := .slice B2 n2 k2) (cs := [.int .i64 f0, .slice B1 n1 k1, .slice B2 n2 k2, .slice B3 n3 k3, .slice B4 n4 k4]) (by repeat (first | exact List.mem_cons_self | refine List.mem_cons_of_mem _ ?_)) rfl
  have x3 := X.out.at_ (g := w.heap.size) (i := 3) (v := .slice A3 n3 c3) (cs := [.int .i64 f0, .slice A1 n1 c1, .slice A2 n2 c2, .slice A3 n3 c3, .slice A4 n4 c4]) (by repeat (first | exact List.mem_cons_self | refine List.mem_cons_of_mem _ ?_)) rfl
  have y3 := X.out.at_ (g := w.heap.size + 1) (i := 3) (v := .slice B3 n3 k3) (cs := [.int .i64 f0, .slice B1 n1 k1, .slice B2 n2 k2, .slice B3 n3 k3, .slice B4 n4 k4]) (by repeat (first | exact List.mem_cons_self | refine List.mem_cons_of_mem _ ?_)) rfl
  have x4 := X.out.at_ (g := w.heap.size) (i := 4) (v := .slice A4 n4 c4) (cs := [.int .i64 f0, .slice A1 n1 c1, .slice A2 n2 c2, .slice A3 n3 c3, .slice A4 n4 c4]) (by repeat (first | exact List.mem_cons_self | refine List.mem_cons_of_mem _ ?_)) rfl
  have y4 := X.out.at_ (g := w.heap.size + 1) (i := 4) (v := .slice B4 n4 k4) (cs := [.int .i64 f0, .slice B1 n1 k1, .slice B2 n2 k2, .slice B3 n3 k3, .slice B4 n4 k4]) (by repeat (first | exact List.mem_cons_self | refine List.mem_cons_of_mem _ ?_)) rfl
  go_wp2_with fail
  refine (eqLinkS L3 A3 B3 n3 n3 c3 k3 _ (HL3.out.below X.out.1) (HR3.out.below X.out.1) HT3.out hm3).mono ?_
  rintro e w3 ⟨rfl, hb⟩
  clear x0 x1 x2 x3 x4 y0 y1 y2 y3 y4
  replace X := Lib.hid (X.out.below hb)
  clear hb
  have x0 := X.out.at_ (g := w.heap.size) (i := 0) (v := .int .i64 f0) (cs := [.int .i64 f0, .slice A1 n1 c1, .slice A2 n2 c2, .slice A3 n3 c3, .slice A4 n4 c4]) (by repeat (first | exact List.mem_cons_self | refine List.mem_cons_of_mem _ ?_)) rfl
  have y0 := X.out.at_ (g := w.heap.size + 1) (i := 0) (v := .int .i64 f0) (cs := [.int .i64 f0, .slice B1 n1 k1, .slice B2 n2 k2, .slice B3 n3 k3, .slice B4 n4 k4]) (by repeat (first | exact List.mem_cons_self | refine List.mem_cons_of_mem _ ?_)) rfl
  have x1 := X.out.at_ (g := w.heap.size) (i := 1) (v := .slice A1 n1 c1) (cs := [.int .i64 f0, .slice A1 n1 c1, .slice A2 n2 c2, .slice A3 n3 c3, .slice A4 n4 c4]) (by repeat (first | exact List.mem_cons_self | refine List.mem_cons_of_mem _ ?_)) rfl
  have y1 := X.out.at_ (g := w.heap.size + 1) (i := 1) (v := .slice B1 n1 k1) (cs := [.int .i64 f0, .slice B1 n1 k1, .slice B2 n2 k2, .slice B3 n3 k3, .slice B4 n4 k4]) (by repeat (first | exact List.mem_cons_self | refine List.mem_cons_of_mem _ ?_)) rfl
  have x2 := X.out.at_ (g := w.heap.size) (i := 2) (v := .slice A2 n2 c2) (cs := [.int .i64 f0, .slice A1 n1 c1, .slice A2 n2 c2, .slice A3 n3 c3, .slice A4 n4 c4]) (by repeat (first | exact List.mem_cons_self | refine List.mem_cons_of_mem _ ?_)) rfl
  have y2 := X.out.at_ (g := w.heap.size + 1) (i := 2) (v := .slice B2 n2 k2) (cs := [.int .i64 f0, .slice B1 n1 k1, .slice B2 n2 k2, .slice B3 n3 k3, .slice B4 n4 k4]) (by repeat (first | exact List.mem_cons_self | refine List.mem_cons_of_mem _ ?_)) rfl
  have x3 := X.out.at_ (g := w.heap.size) (i := 3) (v := .slice A3 n3 c3) (cs := [.int .i64 f0, .slice A1 n1 c1, .slice A2 n2 c2, .slice A3 n3 c3, .slice A4 n4 c4]) (by repeat (first | exact List.mem_cons_self | refine List.mem_cons_of_mem _ ?_)) rfl
  have y3 := X.out.at_ (g := w.heap.size + 1) (i := 3) (v := .slice B3 n3 k3) (cs := [.int .i64 f0, .slice B1 n1 k1, .slice B2 n2 k2, .slice B3 n3 k3, .slice B4 n4 k4]) (by repeat (first | exact List.mem_cons_self | refine List.mem_cons_of_mem _ ?_)) rfl
  have x4 := X.out.at_ (g := w.heap.size) (i := 4) (v := .slice A4 n4 c4) (cs := [.int .i64 f0, .slice A1 n1 c1, .slice A2 n2 c2, .slice A3 n3 c3, .slice A4 n4 c4]) (by repeat (first | exact List.mem_cons_self | refine List.mem_cons_of_mem _ ?_)) rfl
  have y4 := X.out.at_ (g := w.heap.size + 1) (i := 4) (v := .slice B4 n4 k4) (cs := [.int .i64 f0, .slice B1 n1 k1, .slice B2 n2 k2, .slice B3 n3 k3, .slice B4 n4 k4]) (by repeat (first | exact List.mem_cons_self | refine List.mem_cons_of_mem _ ?_)) rfl
  go_wp2_with fail
  refine (eqOutgoingS L4 A4 B4 n4 n4 c4 k4 _ (HL4.out.below X.out.1) (HR4.out.below X.out.1) HT4.out hm4).mono ?_
  rintro e w4 ⟨rfl, hb⟩
  clear x0 x1 x2 x3 x4 y0 y1 y2 y3 y4
  replace X := Lib.hid (X.out.below hb)
  clear hb
  go_wp2_with fail
  go_ret
  exact GivesBool.ret X.out.1
end Go.Proofs.Ytmeacgpebpfpbaa
end
