/- Chapter 12's data, by program. Chapter 12's data, by program. -/
import Derived.Test.YtmeacgpebpfpbaaTyE5
import Derived.Test.YtmeacgpebpfpbaaTyG5
import Derived.Test.YtmeacgpebpfpbaaTyM5
import Derived.Test.YtmeacgpebpfpbaaTyV0
import Derived.LoopTactic
import Derived.Lib.Hide
import Derived.Deep.QuietTactic
import Derived.BigQuiet
import Derived.Deep.RegionWith
import Derived.Handy
section
namespace Go.Proofs.Ytmeacgpebpfpbaa
open Go.RowKit
set_option linter.unusedVariables false
set_option linter.unusedSimpArgs false
set_option maxRecDepth 100000 in
set_option maxHeartbeats 4000000 in
theorem szEntityS (L : List Dat) (A : Option Addr) (n c : Nat) (left : Int) (w : World) (h0 : 0 ≤ left) (h1 : left ≤ 1099511627776) (h : Lies w (.l L) [.slice A n c]) (ht : ∀ x ∈ L, Has tyEntity x) (hn : n ≤ 9223372036854775807) : Calls Try.prog 85 #[.slice A n c, .int .i64 left] w (GivesInt (leftD (Dat.l L) left) w) := by
  have H := Lib.hid h
  have HT := Lib.hid ht
  have hc := h.count
  have HC := Lib.hid hc
  clear h ht hc
  by_cases g0 : left - n < 0
  · go_enter Try.func85, Try.ntmps85
    go_wp2
    go_ret
    exact GivesInt.ret (leftD_no (by have := HC.out; simp only [Dat.bulk]; omega)) (Below.refl _ _)
  · go_enter Try.func85, Try.ntmps85
    go_wp2
    go_loopw [1, 5] (fun lv iv wr => ∃ (i : Nat) (r : Int), i ≤ n ∧ iv = .int .i64 i ∧ lv = .int .i64 r ∧ r = left - n - bulkAll (L.take i) ∧ 0 ≤ r ∧ r ≤ left ∧ Below w.heap.size w wr) (fun _ iv _ => n - (intOf iv).toNat)
    case atStart => exact ⟨0, left - n, Nat.zero_le _, rfl, rfl, by simp [bulkAll], by omega, by omega, Below.refl _ _⟩
    case round =>
      obtain ⟨i, r, hin, rfl, rfl, hr, hr0, hr1, hb⟩ := hrel
      have HR := Lib.hid hr
      clear hr
      by_cases hlt : i < n
      · obtain ⟨b, off, d, xs, rfl, hbw, hzi, hlie, hlen, hcell⟩ := (H.out.below hb).elem (fun x hx => (HT.out x hx).width) hlt
        obtain ⟨f0, f1, L2, A2, n2, c2, f3, f4_0, f4_1, L5, A5, n5, c5, L6, A6, n6, c6, f7, f8, f9, f10, rfl, rfl, hl2, ht2, hm2, hl5, ht5, hm5, hl6, ht6, hm6⟩ := invEntity (HT.out d (List.mem_of_getElem? hzi)) hlie
        have r0 : wr.cell? ⟨b, off + i * 12, none⟩ = some (.int .i64 f0) := hcell 0 _ rfl
        have r1 : wr.cell? ⟨b, off + i * 12 + 1, none⟩ = some (.int .i64 f1) := hcell 1 _ rfl
        have r2 : wr.cell? ⟨b, off + i * 12 + 2, none⟩ = some (.slice A2 n2 c2) := hcell 2 _ rfl
        have r3 : wr.cell? ⟨b, off + i * 12 + 3, none⟩ = some (.int .i64 f3) := hcell 3 _ rfl
        have r4 : wr.cell? ⟨b, off + i * 12 + 4, none⟩ = some (.int .i64 f4_0) := hcell 4 _ rfl
        have r5 : wr.cell? ⟨b, off + i * 12 + 5, none⟩ = some (.int .i64 f4_1) := hcell 5 _ rfl
        have r6 : wr.cell? ⟨b, off + i * 12 + 6, none⟩ = some (.slice A5 n5 c5) := hcell 6 _ rfl
        have r7 : wr.cell? ⟨b, off + i * 12 + 7, none⟩ = some (.slice A6 n6 c6) := hcell 7 _ rfl
        have r8 : wr.cell? ⟨b, off + i * 12 + 8, none⟩ = some (.int .i64 f7) := hcell 8 _ rfl
        have r9 : wr.cell? ⟨b, off + i * 12 + 9, none⟩ = some (.int .i64 f8) := hcell 9 _ rfl
        have r10 : wr.cell? ⟨b, off + i * 12 + 10, none⟩ = some (.int .i64 f9) := hcell 10 _ rfl
        have r11 : wr.cell? ⟨b, off + i * 12 + 11, none⟩ = some (.int .i64 f10) := hcell 11 _ rfl
        have HZ := Lib.hid (bulk_next hzi)
        have HM := Lib.hid (bulk_take_le L (i + 1))
        have HBR := Lib.hid hb
        clear hzi hb hcell hlie
        go_wp2_with fail
        refine (szEntity f0 f1 L2 A2 n2 c2 f3 f4_0 f4_1 L5 A5 n5 c5 L6 A6 n6 c6 f7 f8 f9 f10 r _ hr0 (by omega) hl2 ht2 hm2 hl5 ht5 hm5 hl6 ht6 hm6).mono ?_
        rintro e w2 ⟨rfl, hb2⟩
        have HB2 := Lib.hid (HBR.out.trans (hb2.mono HBR.out.size))
        clear hb2 hl2 ht2 hl5 ht5 hl6 ht6
        by_cases g1 : r - (.r [.i f0, .i f1, .l L2, .i f3, .r [.i f4_0, .i f4_1], .l L5, .l L6, .i f7, .i f8, .i f9, .i f10] : Dat).bulk < 0
        · rw [show leftD (.r [.i f0, .i f1, .l L2, .i f3, .r [.i f4_0, .i f4_1], .l L5, .l L6, .i f7, .i f8, .i f9, .i f10]) r = -1 from if_pos g1]
          have hneg : left - (Dat.l L).bulk < 0 := by have h1 := HZ.out; have h2 := HM.out; have h3 := HC.out; have h4 := HR.out; rw [Dat.bulk]; omega
          go_wp2_with fail
          go_ret
          exact GivesInt.ret (leftD_no hneg) HB2.out
        · rw [show leftD (.r [.i f0, .i f1, .l L2, .i f3, .r [.i f4_0, .i f4_1], .l L5, .l L6, .i f7, .i f8, .i f9, .i f10]) r = r - (.r [.i f0, .i f1, .l L2, .i f3, .r [.i f4_0, .i f4_1], .l L5, .l L6, .i f7, .i f8, .i f9, .i f10] : Dat).bulk from if_neg g1]
          have HE : Hid (r - (.r [.i f0, .i f1, .l L2, .i f3, .r [.i f4_0, .i f4_1], .l L5, .l L6, .i f7, .i f8, .i f9, .i f10] : Dat).bulk = left - n - bulkAll (L.take (i + 1))) := Lib.hid (by have h1 := HZ.out; have h4 := HR.out; omega)
          have hp0 : 0 ≤ r - (.r [.i f0, .i f1, .l L2, .i f3, .r [.i f4_0, .i f4_1], .l L5, .l L6, .i f7, .i f8, .i f9, .i f10] : Dat).bulk := by omega
          have hp1 : r - (.r [.i f0, .i f1, .l L2, .i f3, .r [.i f4_0, .i f4_1], .l L5, .l L6, .i f7, .i f8, .i f9, .i f10] : Dat).bulk ≤ left := by omega
          generalize r - (.r [.i f0, .i f1, .l L2, .i f3, .r [.i f4_0, .i f4_1], .l L5, .l L6, .i f7, .i f8, .i f9, .i f10] : Dat).bulk = rr at *
          go_wp2_with fail
          go_roundw
          case rel => exact ⟨i + 1, rr, by omega, by go_num, rfl, HE.out, hp0, hp1, HB2.out⟩
          case measure => simp [intOf]; omega
      · obtain rfl : i = n := by omega
        have HBR := Lib.hid hb
        clear hb
        have hE : r = leftD (Dat.l L) left := by
          have h4 := HR.out
          have h3 := HC.out
          rw [List.take_of_length_le (by omega)] at h4
          rw [leftD, if_neg (by rw [Dat.bulk]; omega), Dat.bulk]
          omega
        have HE := Lib.hid hE
        clear hE
        go_wp2_with fail
        go_ret
        exact GivesInt.ret HE.out HBR.out
set_option maxRecDepth 100000 in
set_option maxHeartbeats 4000000 in
theorem szLinkS (L : List Dat) (A : Option Addr) (n c : Nat) (left : Int) (w : World) (h0 : 0 ≤ left) (h1 : left ≤ 1099511627776) (h : Lies w (.l L) [.slice A n c]) (ht : ∀ x ∈ L, Has tyLink x) (hn : n ≤ 9223372036854775807) : Calls Try.prog 87 #[.slice A n c, .int .i64 left] w (GivesInt (leftD (Dat.l L) left) w) := by
  have H := Lib.hid h
  have HT := Lib.hid ht
  have hc := h.count
  have HC := Lib.hid hc
  clear h ht hc
  by_cases g0 : left - n < 0
  · go_enter Try.func87, Try.ntmps87
    go_wp2
    go_ret
    exact GivesInt.ret (leftD_no (by have := HC.out; simp only [Dat.bulk]; omega)) (Below.refl _ _)
  · go_enter Try.func87, Try.ntmps87
    go_wp2
    go_loopw [1, 5] (fun lv iv wr => ∃ (i : Nat) (r : Int), i ≤ n ∧ iv = .int .i64 i ∧ lv = .int .i64 r ∧ r = left - n - bulkAll (L.take i) ∧ 0 ≤ r ∧ r ≤ left ∧ Below w.heap.size w wr) (fun _ iv _ => n - (intOf iv).toNat)
    case atStart => exact ⟨0, left - n, Nat.zero_le _, rfl, rfl, by simp [bulkAll], by omega, by omega, Below.refl _ _⟩
    case round =>
      obtain ⟨i, r, hin, rfl, rfl, hr, hr0, hr1, hb⟩ := hrel
      have HR := Lib.hid hr
      clear hr
      by_cases hlt : i < n
      · obtain ⟨b, off, d, xs, rfl, hbw, hzi, hlie, hlen, hcell⟩ := (H.out.below hb).elem (fun x hx => (HT.out x hx).width) hlt
        obtain ⟨f0, f1, L2, A2, n2, c2, f3, L4, A4, n4, c4, f5, L6, A6, n6, c6, rfl, rfl, hl2, ht2, hm2, hl4, ht4, hm4, hl6, ht6, hm6⟩ := invLink (HT.out d (List.mem_of_getElem? hzi)) hlie
        have r0 : wr.cell? ⟨b, off + i * 7, none⟩ = some (.int .i64 f0) := hcell 0 _ rfl
        have r1 : wr.cell? ⟨b, off + i * 7 + 1, none⟩ = some (.bool f1) := hcell 1 _ rfl
        have r2 : wr.cell? ⟨b, off + i * 7 + 2, none⟩ = some (.slice A2 n2 c2) := hcell 2 _ rfl
        have r3 : wr.cell? ⟨b, off + i * 7 + 3, none⟩ = some (.int .i64 f3) := hcell 3 _ rfl
        have r4 : wr.cell? ⟨b, off + i * 7 + 4, none⟩ = some (.slice A4 n4 c4) := hcell 4 _ rfl
        have r5 : wr.cell? ⟨b, off + i * 7 + 5, none⟩ = some (.int .i64 f5) := hcell 5 _ rfl
        have r6 : wr.cell? ⟨b, off + i * 7 + 6, none⟩ = some (.slice A6 n6 c6) := hcell 6 _ rfl
        have HZ := Lib.hid (bulk_next hzi)
        have HM := Lib.hid (bulk_take_le L (i + 1))
        have HBR := Lib.hid hb
        clear hzi hb hcell hlie
        go_wp2_with fail
        refine (szLink f0 f1 L2 A2 n2 c2 f3 L4 A4 n4 c4 f5 L6 A6 n6 c6 r _ hr0 (by omega) hl2 ht2 hm2 hl4 ht4 hm4 hl6 ht6 hm6).mono ?_
        rintro e w2 ⟨rfl, hb2⟩
        have HB2 := Lib.hid (HBR.out.trans (hb2.mono HBR.out.size))
        clear hb2 hl2 ht2 hl4 ht4 hl6 ht6
        by_cases g1 : r - (.r [.i f0, .b f1, .l L2, .i f3, .l L4, .i f5, .l L6] : Dat).bulk < 0
        · rw [show leftD (.r [.i f0, .b f1, .l L2, .i f3, .l L4, .i f5, .l L6]) r = -1 from if_pos g1]
          have hneg : left - (Dat.l L).bulk < 0 := by have h1 := HZ.out; have h2 := HM.out; have h3 := HC.out; have h4 := HR.out; rw [Dat.bulk]; omega
          go_wp2_with fail
          go_ret
          exact GivesInt.ret (leftD_no hneg) HB2.out
        · rw [show leftD (.r [.i f0, .b f1, .l L2, .i f3, .l L4, .i f5, .l L6]) r = r - (.r [.i f0, .b f1, .l L2, .i f3, .l L4, .i f5, .l L6] : Dat).bulk from if_neg g1]
          have HE : Hid (r - (.r [.i f0, .b f1, .l L2, .i f3, .l L4, .i f5, .l L6] : Dat).bulk = left - n - bulkAll (L.take (i + 1))) := Lib.hid (by have h1 := HZ.out; have h4 := HR.out; omega)
          have hp0 : 0 ≤ r - (.r [.i f0, .b f1, .l L2, .i f3, .l L4, .i f5, .l L6] : Dat).bulk := by omega
          have hp1 : r - (.r [.i f0, .b f1, .l L2, .i f3, .l L4, .i f5, .l L6] : Dat).bulk ≤ left := by omega
          generalize r - (.r [.i f0, .b f1, .l L2, .i f3, .l L4, .i f5, .l L6] : Dat).bulk = rr at *
          go_wp2_with fail
          go_roundw
          case rel => exact ⟨i + 1, rr, by omega, by go_num, rfl, HE.out, hp0, hp1, HB2.out⟩
          case measure => simp [intOf]; omega
      · obtain rfl : i = n := by omega
        have HBR := Lib.hid hb
        clear hb
        have hE : r = leftD (Dat.l L) left := by
          have h4 := HR.out
          have h3 := HC.out
          rw [List.take_of_length_le (by omega)] at h4
          rw [leftD, if_neg (by rw [Dat.bulk]; omega), Dat.bulk]
          omega
        have HE := Lib.hid hE
        clear hE
        go_wp2_with fail
        go_ret
        exact GivesInt.ret HE.out HBR.out
set_option maxHeartbeats 4000000 in
theorem szOutgoing (f0 : Int) (f1_0 : Int) (f1_1 : Int) (f1_2 : Int) (f1_3 : Int) (f1_4 : ByteArray) (L1_5 : List Dat) (A1_5 : Option Addr) (n1_5 c1_5 : Nat) (f1_6_0 : Int) (f1_6_1 : Int) (f1_7 : Int) (f1_8_0 : Int) (f1_8_1 : Int) (f1_8_2 : Int) (left : Int) (w : World) (h0 : 0 ≤ left) (h1 : left ≤ 1099511627776) (hf1_4 : f1_4.size ≤ 9223372036854775807) (hl1_5 : Lies w (.l L1_5) [.slice A1_5 n1_5 c1_5]) (ht1_5 : ∀ x ∈ L1_5, Has tyWire x) (hm1_5 : n1_5 ≤ 9223372036854775807) : Calls Try.prog 149 #[.agg #[.int .i64 f0, .int .i64 f1_0, .int .i64 f1_1, .int .i64 f1_2, .int .i64 f1_3, .string f1_4, .slice A1_5 n1_5 c1_5, .int .i64 f1_6_0, .int .i64 f1_6_1, .int .i64 f1_7, .int .i64 f1_8_0, .int .i64 f1_8_1, .int .i64 f1_8_2], .int .i64 left] w (GivesInt (leftD (.r [.i f0, .r [.i f1_0, .i f1_1, .i f1_2, .i f1_3, .s f1_4, .l L1_5, .r [.i f1_6_0, .i f1_6_1], .i f1_7, .r [.i f1_8_0, .i f1_8_1, .i f1_8_2]]]) left) w) := by
  have HL1_5 := Lib.hid hl1_5
  have HT1_5 := Lib.hid ht1_5
  clear hl1_5 ht1_5
  have X := Lib.hid ((Held.start w).push #[.int .i64 f0, .int .i64 f1_0, .int .i64 f1_1, .int .i64 f1_2, .int .i64 f1_3, .string f1_4, .slice A1_5 n1_5 c1_5, .int .i64 f1_6_0, .int .i64 f1_6_1, .int .i64 f1_7, .int .i64 f1_8_0, .int .i64 f1_8_1, .int .i64 f1_8_2] 197)
  go_enter Try.func149, Try.ntmps149
  go_wp2_with fail
  refine (szMessage f1_0 f1_1 f1_2 f1_3 f1_4 L1_5 A1_5 n1_5 c1_5 f1_6_0 f1_6_1 f1_7 f1_8_0 f1_8_1 f1_8_2 (left) _ (by omega) (by omega) hf1_4 (HL1_5.out.below (X.out.1)) HT1_5.out hm1_5).mono ?_
  rintro e w1 ⟨rfl, hb⟩
  replace X := Lib.hid (X.out.below hb)
  clear hb
  by_cases g1 : left - (.r [.i f1_0, .i f1_1, .i f1_2, .i f1_3, .s f1_4, .l L1_5, .r [.i f1_6_0, .i f1_6_1], .i f1_7, .r [.i f1_8_0, .i f1_8_1, .i f1_8_2]] : Dat).bulk < 0
  · rw [show leftD (.r [.i f1_0, .i f1_1, .i f1_2, .i f1_3, .s f1_4, .l L1_5, .r [.i f1_6_0, .i f1_6_1], .i f1_7, .r [.i f1_8_0, .i f1_8_1, .i f1_8_2]] : Dat) (left) = -1 from if_pos g1]
    have hneg : Hid (left - (.r [.i f0, .r [.i f1_0, .i f1_1, .i f1_2, .i f1_3, .s f1_4, .l L1_5, .r [.i f1_6_0, .i f1_6_1], .i f1_7, .r [.i f1_8_0, .i f1_8_1, .i f1_8_2]]] : Dat).bulk < 0) := Lib.hid (by simp only [Dat.bulk, bulkAll] at *; omega)
    go_wp2_with fail
    go_ret
    exact GivesInt.ret (leftD_no hneg.out) X.out.1
  · rw [show leftD (.r [.i f1_0, .i f1_1, .i f1_2, .i f1_3, .s f1_4, .l L1_5, .r [.i f1_6_0, .i f1_6_1], .i f1_7, .r [.i f1_8_0, .i f1_8_1, .i f1_8_2]] : Dat) (left) = left - (.r [.i f1_0, .i f1_1, .i f1_2, .i f1_3, .s f1_4, .l L1_5, .r [.i f1_6_0, .i f1_6_1], .i f1_7, .r [.i f1_8_0, .i f1_8_1, .i f1_8_2]] : Dat).bulk from if_neg g1]
    obtain ⟨r1, hr1⟩ : ∃ r, r = left - (.r [.i f1_0, .i f1_1, .i f1_2, .i f1_3, .s f1_4, .l L1_5, .r [.i f1_6_0, .i f1_6_1], .i f1_7, .r [.i f1_8_0, .i f1_8_1, .i f1_8_2]] : Dat).bulk := ⟨_, rfl⟩
    rw [← hr1]
    have hp1 : 0 ≤ r1 := by omega
    have hu1 : r1 ≤ 1099511627776 := by omega
    have HR1 := Lib.hid hr1
    clear hr1 g1
    have hend : Hid (r1 = leftD (.r [.i f0, .r [.i f1_0, .i f1_1, .i f1_2, .i f1_3, .s f1_4, .l L1_5, .r [.i f1_6_0, .i f1_6_1], .i f1_7, .r [.i f1_8_0, .i f1_8_1, .i f1_8_2]]]) left) := Lib.hid (leftD_ok (by have q0 := HR1.out; simp only [Dat.bulk, bulkAll] at *; omega) (by have q0 := HR1.out; simp only [Dat.bulk, bulkAll] at *; omega))
    go_wp2_with fail
    go_ret
    exact GivesInt.ret hend.out X.out.1
set_option maxRecDepth 100000 in
set_option maxHeartbeats 4000000 in
theorem szOutgoingS (L : List Dat) (A : Option Addr) (n c : Nat) (left : Int) (w : World) (h0 : 0 ≤ left) (h1 : left ≤ 1099511627776) (h : Lies w (.l L) [.slice A n c]) (ht : ∀ x ∈ L, Has tyOutgoing x) (hn : n ≤ 9223372036854775807) : Calls Try.prog 88 #[.slice A n c, .int .i64 left] w (GivesInt (leftD (Dat.l L) left) w) := by
  have H := Lib.hid h
  have HT := Lib.hid ht
  have hc := h.count
  have HC := Lib.hid hc
  clear h ht hc
  by_cases g0 : left - n < 0
  · go_enter Try.func88, Try.ntmps88
    go_wp2
    go_ret
    exact GivesInt.ret (leftD_no (by have := HC.out; simp only [Dat.bulk]; omega)) (Below.refl _ _)
  · go_enter Try.func88, Try.ntmps88
    go_wp2
    go_loopw [1, 5] (fun lv iv wr => ∃ (i : Nat) (r : Int), i ≤ n ∧ iv = .int .i64 i ∧ lv = .int .i64 r ∧ r = left - n - bulkAll (L.take i) ∧ 0 ≤ r ∧ r ≤ left ∧ Below w.heap.size w wr) (fun _ iv _ => n - (intOf iv).toNat)
    case atStart => exact ⟨0, left - n, Nat.zero_le _, rfl, rfl, by simp [bulkAll], by omega, by omega, Below.refl _ _⟩
    case round =>
      obtain ⟨i, r, hin, rfl, rfl, hr, hr0, hr1, hb⟩ := hrel
      have HR := Lib.hid hr
      clear hr
      by_cases hlt : i < n
      · obtain ⟨b, off, d, xs, rfl, hbw, hzi, hlie, hlen, hcell⟩ := (H.out.below hb).elem (fun x hx => (HT.out x hx).width) hlt
        obtain ⟨f0, f1_0, f1_1, f1_2, f1_3, f1_4, L1_5, A1_5, n1_5, c1_5, f1_6_0, f1_6_1, f1_7, f1_8_0, f1_8_1, f1_8_2, rfl, rfl, hf1_4, hl1_5, ht1_5, hm1_5⟩ := invOutgoing (HT.out d (List.mem_of_getElem? hzi)) hlie
        have r0 : wr.cell? ⟨b, off + i * 13, none⟩ = some (.int .i64 f0) := hcell 0 _ rfl
        have r1 : wr.cell? ⟨b, off + i * 13 + 1, none⟩ = some (.int .i64 f1_0) := hcell 1 _ rfl
        have r2 : wr.cell? ⟨b, off + i * 13 + 2, none⟩ = some (.int .i64 f1_1) := hcell 2 _ rfl
        have r3 : wr.cell? ⟨b, off + i * 13 + 3, none⟩ = some (.int .i64 f1_2) := hcell 3 _ rfl
        have r4 : wr.cell? ⟨b, off + i * 13 + 4, none⟩ = some (.int .i64 f1_3) := hcell 4 _ rfl
        have r5 : wr.cell? ⟨b, off + i * 13 + 5, none⟩ = some (.string f1_4) := hcell 5 _ rfl
        have r6 : wr.cell? ⟨b, off + i * 13 + 6, none⟩ = some (.slice A1_5 n1_5 c1_5) := hcell 6 _ rfl
        have r7 : wr.cell? ⟨b, off + i * 13 + 7, none⟩ = some (.int .i64 f1_6_0) := hcell 7 _ rfl
        have r8 : wr.cell? ⟨b, off + i * 13 + 8, none⟩ = some (.int .i64 f1_6_1) := hcell 8 _ rfl
        have r9 : wr.cell? ⟨b, off + i * 13 + 9, none⟩ = some (.int .i64 f1_7) := hcell 9 _ rfl
        have r10 : wr.cell? ⟨b, off + i * 13 + 10, none⟩ = some (.int .i64 f1_8_0) := hcell 10 _ rfl
        have r11 : wr.cell? ⟨b, off + i * 13 + 11, none⟩ = some (.int .i64 f1_8_1) := hcell 11 _ rfl
        have r12 : wr.cell? ⟨b, off + i * 13 + 12, none⟩ = some (.int .i64 f1_8_2) := hcell 12 _ rfl
        have HZ := Lib.hid (bulk_next hzi)
        have HM := Lib.hid (bulk_take_le L (i + 1))
        have HBR := Lib.hid hb
        clear hzi hb hcell hlie
        go_wp2_with fail
        refine (szOutgoing f0 f1_0 f1_1 f1_2 f1_3 f1_4 L1_5 A1_5 n1_5 c1_5 f1_6_0 f1_6_1 f1_7 f1_8_0 f1_8_1 f1_8_2 r _ hr0 (by omega) hf1_4 hl1_5 ht1_5 hm1_5).mono ?_
        rintro e w2 ⟨rfl, hb2⟩
        have HB2 := Lib.hid (HBR.out.trans (hb2.mono HBR.out.size))
        clear hb2 hl1_5 ht1_5
        by_cases g1 : r - (.r [.i f0, .r [.i f1_0, .i f1_1, .i f1_2, .i f1_3, .s f1_4, .l L1_5, .r [.i f1_6_0, .i f1_6_1], .i f1_7, .r [.i f1_8_0, .i f1_8_1, .i f1_8_2]]] : Dat).bulk < 0
        · rw [show leftD (.r [.i f0, .r [.i f1_0, .i f1_1, .i f1_2, .i f1_3, .s f1_4, .l L1_5, .r [.i f1_6_0, .i f1_6_1], .i f1_7, .r [.i f1_8_0, .i f1_8_1, .i f1_8_2]]]) r = -1 from if_pos g1]
          have hneg : left - (Dat.l L).bulk < 0 := by have h1 := HZ.out; have h2 := HM.out; have h3 := HC.out; have h4 := HR.out; rw [Dat.bulk]; omega
          go_wp2_with fail
          go_ret
          exact GivesInt.ret (leftD_no hneg) HB2.out
        · rw [show leftD (.r [.i f0, .r [.i f1_0, .i f1_1, .i f1_2, .i f1_3, .s f1_4, .l L1_5, .r [.i f1_6_0, .i f1_6_1], .i f1_7, .r [.i f1_8_0, .i f1_8_1, .i f1_8_2]]]) r = r - (.r [.i f0, .r [.i f1_0, .i f1_1, .i f1_2, .i f1_3, .s f1_4, .l L1_5, .r [.i f1_6_0, .i f1_6_1], .i f1_7, .r [.i f1_8_0, .i f1_8_1, .i f1_8_2]]] : Dat).bulk from if_neg g1]
          have HE : Hid (r - (.r [.i f0, .r [.i f1_0, .i f1_1, .i f1_2, .i f1_3, .s f1_4, .l L1_5, .r [.i f1_6_0, .i f1_6_1], .i f1_7, .r [.i f1_8_0, .i f1_8_1, .i f1_8_2]]] : Dat).bulk = left - n - bulkAll (L.take (i + 1))) := Lib.hid (by have h1 := HZ.out; have h4 := HR.out; omega)
          have hp0 : 0 ≤ r - (.r [.i f0, .r [.i f1_0, .i f1_1, .i f1_2, .i f1_3, .s f1_4, .l L1_5, .r [.i f1_6_0, .i f1_6_1], .i f1_7, .r [.i f1_8_0, .i f1_8_1, .i f1_8_2]]] : Dat).bulk := by omega
          have hp1 : r - (.r [.i f0, .r [.i f1_0, .i f1_1, .i f1_2, .i f1_3, .s f1_4, .l L1_5, .r [.i f1_6_0, .i f1_6_1], .i f1_7, .r [.i f1_8_0, .i f1_8_1, .i f1_8_2]]] : Dat).bulk ≤ left := by omega
          generalize r - (.r [.i f0, .r [.i f1_0, .i f1_1, .i f1_2, .i f1_3, .s f1_4, .l L1_5, .r [.i f1_6_0, .i f1_6_1], .i f1_7, .r [.i f1_8_0, .i f1_8_1, .i f1_8_2]]] : Dat).bulk = rr at *
          go_wp2_with fail
          go_roundw
          case rel => exact ⟨i + 1, rr, by omega, by go_num, rfl, HE.out, hp0, hp1, HB2.out⟩
          case measure => simp [intOf]; omega
      · obtain rfl : i = n := by omega
        have HBR := Lib.hid hb
        clear hb
        have hE : r = leftD (Dat.l L) left := by
          have h4 := HR.out
          have h3 := HC.out
          rw [List.take_of_length_le (by omega)] at h4
          rw [leftD, if_neg (by rw [Dat.bulk]; omega), Dat.bulk]
          omega
        have HE := Lib.hid hE
        clear hE
        go_wp2_with fail
        go_ret
        exact GivesInt.ret HE.out HBR.out
end Go.Proofs.Ytmeacgpebpfpbaa
end
section
namespace Go.Proofs.Ytmeacgpebpfpbaa
open Go.RowKit
set_option linter.unusedVariables false
set_option linter.unusedSimpArgs false
set_option maxHeartbeats 4000000 in
theorem szVat (f0 : Int) (L1 : List Dat) (A1 : Option Addr) (n1 c1 : Nat) (L2 : List Dat) (A2 : Option Addr) (n2 c2 : Nat) (L3 : List Dat) (A3 : Option Addr) (n3 c3 : Nat) (L4 : List Dat) (A4 : Option Addr) (n4 c4 : Nat) (left : Int) (w : World) (h0 : 0 ≤ left) (h1 : left ≤ 1099511627776) (hl1 : Lies w (.l L1) [.slice A1 n1 c1]) (ht1 : ∀ x ∈ L1, Has tyEntity x) (hm1 : n1 ≤ 9223372036854775807) (hl2 : Lies w (.l L2) [.slice A2 n2 c2]) (ht2 : ∀ x ∈ L2, Has tySent x) (hm2 : n2 ≤ 9223372036854775807) (hl3 : Lies w (.l L3) [.slice A3 n3 c3]) (ht3 : ∀ x ∈ L3, Has tyLink x) (hm3 : n3 ≤ 9223372036854775807) (hl4 : Lies w (.l L4) [.slice A4 n4 c4]) (ht4 : ∀ x ∈ L4, Has tyOutgoing x) (hm4 : n4 ≤ 9223372036854775807) : Calls Try.prog 28 #[.agg #[.int .i64 f0, .slice A1 n1 c1, .slice A2 n2 c2, .slice A3 n3 c3, .slice A4 n4 c4], .int .i64 left] w (GivesInt (leftD (.r [.i f0, .l L1, .l L2, .l L3, .l L4]) left) w) := by
  have HL1 := Lib.hid hl1
  have HT1 := Lib.hid ht1
  clear hl1 ht1
  have HL2 := Lib.hid hl2
  have HT2 := Lib.hid ht2
  clear hl2 ht2
  have HL3 := Lib.hid hl3
  have HT3 := Lib.hid ht3
  clear hl3 ht3
  have HL4 := Lib.hid hl4
  have HT4 := Lib.hid ht4
  clear hl4 ht4
  have X := Lib.hid ((Held.start w).push #[.int .i64 f0, .slice A1 n1 c1, .slice A2 n2 c2, .slice A3 n3 c3, .slice A4 n4 c4] 60)
  go_enter Try.func28, Try.ntmps28
  go_wp2_with fail
  refine (szEntityS L1 A1 n1 c1 (left) _ (by omega) (by omega) (HL1.out.below (X.out.1)) HT1.out hm1).mono ?_
  rintro e w1 ⟨rfl, hb⟩
  replace X := Lib.hid (X.out.below hb)
  clear hb
  by_cases g1 : left - (Dat.l L1).bulk < 0
  · rw [show leftD (Dat.l L1) (left) = -1 from if_pos g1]
    have hneg : Hid (left - (.r [.i f0, .l L1, .l L2, .l L3, .l L4] : Dat).bulk < 0) := Lib.hid (by simp only [Dat.bulk, bulkAll] at *; omega)
    go_wp2_with fail
    go_ret
    exact GivesInt.ret (leftD_no hneg.out) X.out.1
  · rw [show leftD (Dat.l L1) (left) = left - (Dat.l L1).bulk from if_neg g1]
    obtain ⟨r1, hr1⟩ : ∃ r, r = left - (Dat.l L1).bulk := ⟨_, rfl⟩
    rw [← hr1]
    have hp1 : 0 ≤ r1 := by omega
    have hu1 : r1 ≤ 1099511627776 := by omega
    have HR1 := Lib.hid hr1
    clear hr1 g1
    have x0 := X.out.at_ (g := w.heap.size) (i := 0) (v := .int .i64 f0) (cs := [.int .i64 f0, .slice A1 n1 c1, .slice A2 n2 c2, .slice A3 n3 c3, .slice A4 n4 c4]) (by repeat (first | exact List.mem_cons_self | refine List.mem_cons_of_mem _ ?_)) rfl
    have x1 := X.out.at_ (g := w.heap.size) (i := 1) (v := .slice A1 n1 c1) (cs := [.int .i64 f0, .slice A1 n1 c1, .slice A2 n2 c2, .slice A3 n3 c3, .slice A4 n4 c4]) (by repeat (first | exact List.mem_cons_self | refine List.mem_cons_of_mem _ ?_)) rfl
    have x2 := X.out.at_ (g := w.heap.size) (i := 2) (v := .slice A2 n2 c2) (cs := [.int .i64 f0, .slice A1 n1 c1, .slice A2 n2 c2, .slice A3 n3 c3, .slice A4 n4 c4]) (by repeat (first | exact List.mem_cons_self | refine List.mem_cons_of_mem _ ?_)) rfl
    have x3 := X.out.at_ (g := w.heap.size) (i := 3) (v := .slice A3 n3 c3) (cs := [.int .i64 f0, .slice A1 n1 c1, .slice A2 n2 c2, .slice A3 n3 c3, .slice A4 n4 c4]) (by repeat (first | exact List.mem_cons_self | refine List.mem_cons_of_mem _ ?_)) rfl
    have x4 := X.out.at_ (g := w.heap.size) (i := 4) (v := .slice A4 n4 c4) (cs := [.int .i64 f0, .slice A1 n1 c1, .slice A2 n2 c2, .slice A3 n3 c3, .slice A4 n4 c4]) (by repeat (first | exact List.mem_cons_self | refine List.mem_cons_of_mem _ ?_)) rfl
    go_wp2_with fail
    refine (szSentS L2 A2 n2 c2 (r1) _ (by omega) (by omega) (HL2.out.below (X.out.1)) HT2.out hm2).mono ?_
    rintro e w2 ⟨rfl, hb⟩
    clear x0 x1 x2 x3 x4
    replace X := Lib.hid (X.out.below hb)
    clear hb
    by_cases g2 : r1 - (Dat.l L2).bulk < 0
    · rw [show leftD (Dat.l L2) (r1) = -1 from if_pos g2]
      have hneg : Hid (left - (.r [.i f0, .l L1, .l L2, .l L3, .l L4] : Dat).bulk < 0) := Lib.hid (by have q0 := HR1.out; simp only [Dat.bulk, bulkAll] at *; omega)
      go_wp2_with fail
      go_ret
      exact GivesInt.ret (leftD_no hneg.out) X.out.1
    · rw [show leftD (Dat.l L2) (r1) = r1 - (Dat.l L2).bulk from if_neg g2]
      obtain ⟨r2, hr2⟩ : ∃ r, r = r1 - (Dat.l L2).bulk := ⟨_, rfl⟩
      rw [← hr2]
      have hp2 : 0 ≤ r2 := by omega
      have hu2 : r2 ≤ 1099511627776 := by omega
      have HR2 := Lib.hid hr2
      clear hr2 g2
      have x0 := X.out.at_ (g := w.heap.size) (i := 0) (v := .int .i64 f0) (cs := [.int .i64 f0, .slice A1 n1 c1, .slice A2 n2 c2, .slice A3 n3 c3, .slice A4 n4 c4]) (by repeat (first | exact List.mem_cons_self | refine List.mem_cons_of_mem _ ?_)) rfl
      have x1 := X.out.at_ (g := w.heap.size) (i := 1) (v := .slice A1 n1 c1) (cs := [.int .i64 f0, .slice A1 n1 c1, .slice A2 n2 c2, .slice A3 n3 c3, .slice A4 n4 c4]) (by repeat (first | exact List.mem_cons_self | refine List.mem_cons_of_mem _ ?_)) rfl
      have x2 := X.out.at_ (g := w.heap.size) (i := 2) (v := .slice A2 n2 c2) (cs := [.int .i64 f0, .slice A1 n1 c1, .slice A2 n2 c2, .slice A3 n3 c3, .slice A4 n4 c4]) (by repeat (first | exact List.mem_cons_self | refine List.mem_cons_of_mem _ ?_)) rfl
      have x3 := X.out.at_ (g := w.heap.size) (i := 3) (v := .slice A3 n3 c3) (cs := [.int .i64 f0, .slice A1 n1 c1, .slice A2 n2 c2, .slice A3 n3 c3, .slice A4 n4 c4]) (by repeat (first | exact List.mem_cons_self | refine List.mem_cons_of_mem _ ?_)) rfl
      have x4 := X.out.at_ (g := w.heap.size) (i := 4) (v := .slice A4 n4 c4) (cs := [.int .i64 f0, .slice A1 n1 c1, .slice A2 n2 c2, .slice A3 n3 c3, .slice A4 n4 c4]) (by repeat (first | exact List.mem_cons_self | refine List.mem_cons_of_mem _ ?_)) rfl
      go_wp2_with fail
      refine (szLinkS L3 A3 n3 c3 (r2) _ (by omega) (by omega) (HL3.out.below (X.out.1)) HT3.out hm3).mono ?_
      rintro e w3 ⟨rfl, hb⟩
      clear x0 x1 x2 x3 x4
      replace X := Lib.hid (X.out.below hb)
      clear hb
      by_cases g3 : r2 - (Dat.l L3).bulk < 0
      · rw [show leftD (Dat.l L3) (r2) = -1 from if_pos g3]
        have hneg : Hid (left - (.r [.i f0, .l L1, .l L2, .l L3, .l L4] : Dat).bulk < 0) := Lib.hid (by have q0 := HR1.out; have q1 := HR2.out; simp only [Dat.bulk, bulkAll] at *; omega)
        go_wp2_with fail
        go_ret
        exact GivesInt.ret (leftD_no hneg.out) X.out.1
      · rw [show leftD (Dat.l L3) (r2) = r2 - (Dat.l L3).bulk from if_neg g3]
        obtain ⟨r3, hr3⟩ : ∃ r, r = r2 - (Dat.l L3).bulk := ⟨_, rfl⟩
        rw [← hr3]
        have hp3 : 0 ≤ r3 := by omega
        have hu3 : r3 ≤ 1099511627776 := by omega
        have HR3 := Lib.hid hr3
        clear hr3 g3
        have x0 := X.out.at_ (g := w.heap.size) (i := 0) (v := .int .i64 f0) (cs := [.int .i64 f0, .slice A1 n1 c1, .slice A2 n2 c2, .slice A3 n3 c3, .slice A4 n4 c4]) (by repeat (first | exact List.mem_cons_self | refine List.mem_cons_of_mem _ ?_)) rfl
        have x1 := X.out.at_ (g := w.heap.size) (i := 1) (v := .slice A1 n1 c1) (cs := [.int .i64 f0, .slice A1 n1 c1, .slice A2 n2 c2, .slice A3 n3 c3, .slice A4 n4 c4]) (by repeat (first | exact List.mem_cons_self | refine List.mem_cons_of_mem _ ?_)) rfl
        have x2 := X.out.at_ (g := w.heap.size) (i := 2) (v := .slice A2 n2 c2) (cs := [.int .i64 f0, .slice A1 n1 c1, .slice A2 n2 c2, .slice A3 n3 c3, .slice A4 n4 c4]) (by repeat (first | exact List.mem_cons_self | refine List.mem_cons_of_mem _ ?_)) rfl
        have x3 := X.out.at_ (g := w.heap.size) (i := 3) (v := .slice A3 n3 c3) (cs := [.int .i64 f0, .slice A1 n1 c1, .slice A2 n2 c2, .slice A3 n3 c3, .slice A4 n4 c4]) (by repeat (first | exact List.mem_cons_self | refine List.mem_cons_of_mem _ ?_)) rfl
        have x4 := X.out.at_ (g := w.heap.size) (i := 4) (v := .slice A4 n4 c4) (cs := [.int .i64 f0, .slice A1 n1 c1, .slice A2 n2 c2, .slice A3 n3 c3, .slice A4 n4 c4]) (by repeat (first | exact List.mem_cons_self | refine List.mem_cons_of_mem _ ?_)) rfl
        go_wp2_with fail
        refine (szOutgoingS L4 A4 n4 c4 (r3) _ (by omega) (by omega) (HL4.out.below (X.out.1)) HT4.out hm4).mono ?_
        rintro e w4 ⟨rfl, hb⟩
        clear x0 x1 x2 x3 x4
        replace X := Lib.hid (X.out.below hb)
        clear hb
        by_cases g4 : r3 - (Dat.l L4).bulk < 0
        · rw [show leftD (Dat.l L4) (r3) = -1 from if_pos g4]
          have hneg : Hid (left - (.r [.i f0, .l L1, .l L2, .l L3, .l L4] : Dat).bulk < 0) := Lib.hid (by have q0 := HR1.out; have q1 := HR2.out; have q2 := HR3.out; simp only [Dat.bulk, bulkAll] at *; omega)
          go_wp2_with fail
          go_ret
          exact GivesInt.ret (leftD_no hneg.out) X.out.1
        · rw [show leftD (Dat.l L4) (r3) = r3 - (Dat.l L4).bulk from if_neg g4]
          obtain ⟨r4, hr4⟩ : ∃ r, r = r3 - (Dat.l L4).bulk := ⟨_, rfl⟩
          rw [← hr4]
          have hp4 : 0 ≤ r4 := by omega
          have hu4 : r4 ≤ 1099511627776 := by omega
          have HR4 := Lib.hid hr4
          clear hr4 g4
          have hend : Hid (r4 = leftD (.r [.i f0, .l L1, .l L2, .l L3, .l L4]) left) := Lib.hid (leftD_ok (by have q0 := HR1.out; have q1 := HR2.out; have q2 := HR3.out; have q3 := HR4.out; simp only [Dat.bulk, bulkAll] at *; omega) (by have q0 := HR1.out; have q1 := HR2.out; have q2 := HR3.out; have q3 := HR4.out; simp only [Dat.bulk, bulkAll] at *; omega))
          go_wp2_with fail
          go_ret
          exact GivesInt.ret hend.out X.out.1
end Go.Proofs.Ytmeacgpebpfpbaa
end
