/- The laws' sizes. -/
import Derived.Test.YtaepconmjmcbdaaTyS
import Derived.LoopTactic
import Derived.Lib.Hide
import Derived.Deep.QuietTactic
import Derived.BigQuiet
import Derived.Deep.RegionWith
import Derived.Handy
namespace Go.Proofs.Ytaepconmjmcbdaa
open Go.RowKit
set_option linter.unusedVariables false
set_option linter.unusedSimpArgs false
def leftD (d : Dat) (left : Int) : Int := if left - d.bulk < 0 then -1 else left - d.bulk
theorem leftD_no {d : Dat} {left : Int} (h : left - d.bulk < 0) : -1 = leftD d left := (if_pos h).symm
theorem leftD_ok {d : Dat} {left r : Int} (h : r = left - d.bulk) (h0 : 0 ≤ left - d.bulk) : r = leftD d left := by rw [leftD, if_neg (by omega), h]
theorem bulkAll_append : ∀ (a b : List Dat), bulkAll (a ++ b) = bulkAll a + bulkAll b
  | [], b => by simp [bulkAll]
  | x :: a, b => by rw [List.cons_append, bulkAll, bulkAll, bulkAll_append a b]; omega
theorem bulk_next {L : List Dat} {i : Nat} {d : Dat} (h : L[i]? = some d) : bulkAll (L.take (i + 1)) = bulkAll (L.take i) + d.bulk := by
  rw [List.take_add_one, h, bulkAll_append]
  simp [bulkAll]
theorem bulk_take_le (L : List Dat) (i : Nat) : bulkAll (L.take i) ≤ bulkAll L := by
  have h := bulkAll_append (L.take i) (L.drop i)
  rw [List.take_append_drop] at h
  omega
set_option maxHeartbeats 2000000 in
theorem szInstr (f0 : Int) (f1 : Int) (f2 : Int) (f3 : Int) (f4 : Int) (f5 : ByteArray) (left : Int) (w : World) (h0 : 0 ≤ left) (h1 : left ≤ 1099511627776) (hf5 : f5.size ≤ 9223372036854775807) : Calls Try.prog 86 #[.agg #[.int .i64 f0, .int .i64 f1, .int .i64 f2, .int .i64 f3, .int .i64 f4, .string f5], .int .i64 left] w (GivesInt (leftD (Dat.r [.i f0, .i f1, .i f2, .i f3, .i f4, .s f5]) left) w) := by
  have B0 : Below w.heap.size w (w.alloc (.cells #[.int .i64 f0, .int .i64 f1, .int .i64 f2, .int .i64 f3, .int .i64 f4, .string f5] 116)) := by go_grown
  have HB0 := Lib.hid B0
  go_enter Try.func86, Try.ntmps86
  by_cases g0 : left - f5.size < 0
  · go_wp2_with fail
    go_ret
    exact GivesInt.ret (leftD_no (by simp only [Dat.bulk, bulkAll]; omega)) (by go_grown)
  · skip
    go_wp2_with fail
    go_ret
    exact GivesInt.ret (leftD_ok (by simp only [Dat.bulk, bulkAll]; omega) (by simp only [Dat.bulk, bulkAll]; omega)) (by go_grown)
set_option maxRecDepth 100000 in
set_option maxHeartbeats 2000000 in
theorem szInstrS (L : List Dat) (A : Option Addr) (n c : Nat) (left : Int) (w : World) (h0 : 0 ≤ left) (h1 : left ≤ 1099511627776) (h : Lies w (.l L) [.slice A n c]) (ht : ∀ x ∈ L, Has tyInstr x) (hn : n ≤ 9223372036854775807) : Calls Try.prog 62 #[.slice A n c, .int .i64 left] w (GivesInt (leftD (Dat.l L) left) w) := by
  have H := Lib.hid h
  have HT := Lib.hid ht
  have hc := h.count
  have HC := Lib.hid hc
  clear h ht hc
  by_cases g0 : left - n < 0
  · go_enter Try.func62, Try.ntmps62
    go_wp2
    go_ret
    exact GivesInt.ret (leftD_no (by have := HC.out; simp only [Dat.bulk]; omega)) (Below.refl _ _)
  · go_enter Try.func62, Try.ntmps62
    go_wp2
    go_loopw [1, 5] (fun lv iv wr => ∃ (i : Nat) (r : Int), i ≤ n ∧ iv = .int .i64 i ∧ lv = .int .i64 r ∧ r = left - n - bulkAll (L.take i) ∧ 0 ≤ r ∧ r ≤ left ∧ Below w.heap.size w wr) (fun _ iv _ => n - (intOf iv).toNat)
    case atStart => exact ⟨0, left - n, Nat.zero_le _, rfl, rfl, by simp [bulkAll], by omega, by omega, Below.refl _ _⟩
    case round =>
      obtain ⟨i, r, hin, rfl, rfl, hr, hr0, hr1, hb⟩ := hrel
      have HR := Lib.hid hr
      clear hr
      by_cases hlt : i < n
      · obtain ⟨b, off, d, xs, rfl, hbw, hzi, hlie, hlen, hcell⟩ := (H.out.below hb).elem (fun x hx => (HT.out x hx).width) hlt
        obtain ⟨f0, f1, f2, f3, f4, f5, rfl, rfl, hf5⟩ := invInstr (HT.out d (List.mem_of_getElem? hzi)) hlie
        have r0 : wr.cell? ⟨b, off + i * 6, none⟩ = some (.int .i64 f0) := hcell 0 _ rfl
        have r1 : wr.cell? ⟨b, off + i * 6 + 1, none⟩ = some (.int .i64 f1) := hcell 1 _ rfl
        have r2 : wr.cell? ⟨b, off + i * 6 + 2, none⟩ = some (.int .i64 f2) := hcell 2 _ rfl
        have r3 : wr.cell? ⟨b, off + i * 6 + 3, none⟩ = some (.int .i64 f3) := hcell 3 _ rfl
        have r4 : wr.cell? ⟨b, off + i * 6 + 4, none⟩ = some (.int .i64 f4) := hcell 4 _ rfl
        have r5 : wr.cell? ⟨b, off + i * 6 + 5, none⟩ = some (.string f5) := hcell 5 _ rfl
        have HZ := Lib.hid (bulk_next hzi)
        have HM := Lib.hid (bulk_take_le L (i + 1))
        have HBR := Lib.hid hb
        clear hzi hb hcell hlie
        go_wp2_with fail
        refine (szInstr f0 f1 f2 f3 f4 f5 r _ hr0 (by omega) hf5).mono ?_
        rintro e w2 ⟨rfl, hb2⟩
        have HB2 := Lib.hid (HBR.out.trans (hb2.mono HBR.out.size))
        clear hb2
        by_cases g1 : r - (Dat.r [.i f0, .i f1, .i f2, .i f3, .i f4, .s f5]).bulk < 0
        · rw [show leftD (Dat.r [.i f0, .i f1, .i f2, .i f3, .i f4, .s f5]) r = -1 from if_pos g1]
          have hneg : left - (Dat.l L).bulk < 0 := by have h1 := HZ.out; have h2 := HM.out; have h3 := HC.out; have h4 := HR.out; rw [Dat.bulk]; omega
          go_wp2_with fail
          go_ret
          exact GivesInt.ret (leftD_no hneg) HB2.out
        · rw [show leftD (Dat.r [.i f0, .i f1, .i f2, .i f3, .i f4, .s f5]) r = r - (Dat.r [.i f0, .i f1, .i f2, .i f3, .i f4, .s f5]).bulk from if_neg g1]
          have HE : Hid (r - (Dat.r [.i f0, .i f1, .i f2, .i f3, .i f4, .s f5]).bulk = left - n - bulkAll (L.take (i + 1))) := Lib.hid (by have h1 := HZ.out; have h4 := HR.out; omega)
          have hp0 : 0 ≤ r - (Dat.r [.i f0, .i f1, .i f2, .i f3, .i f4, .s f5]).bulk := by omega
          have hp1 : r - (Dat.r [.i f0, .i f1, .i f2, .i f3, .i f4, .s f5]).bulk ≤ left := by omega
          generalize r - (Dat.r [.i f0, .i f1, .i f2, .i f3, .i f4, .s f5]).bulk = rr at *
          go_wp2_with fail
          go_roundw
          case rel => exact ⟨i + 1, rr, by omega, by go_num, rfl, HE.out, hp0, hp1, HB2.out⟩
          case measure => simp [intOf]; omega
      · obtain rfl : i = n := by omega
        have HBR := Lib.hid hb
        clear hb
        have hE : r = leftD (Dat.l L) left := by
          have h4 := HR.out
          have h3 := HC.out
          rw [List.take_of_length_le (by omega)] at h4
          rw [leftD, if_neg (by rw [Dat.bulk]; omega), Dat.bulk]
          omega
        have HE := Lib.hid hE
        clear hE
        go_wp2_with fail
        go_ret
        exact GivesInt.ret HE.out HBR.out
set_option maxHeartbeats 2000000 in
theorem szMethod (f0 : ByteArray) (L1 : List Dat) (A1 : Option Addr) (n1 c1 : Nat) (left : Int) (w : World) (h0 : 0 ≤ left) (h1 : left ≤ 1099511627776) (hf0 : f0.size ≤ 9223372036854775807) (hl1 : Lies w (.l L1) [.slice A1 n1 c1]) (ht1 : ∀ x ∈ L1, Has tyInstr x) (hm1 : n1 ≤ 9223372036854775807) : Calls Try.prog 24 #[.agg #[.string f0, .slice A1 n1 c1], .int .i64 left] w (GivesInt (leftD (Dat.r [.s f0, .l L1]) left) w) := by
  have B0 : Below w.heap.size w (w.alloc (.cells #[.string f0, .slice A1 n1 c1] 44)) := by go_grown
  have HB0 := Lib.hid B0
  go_enter Try.func24, Try.ntmps24
  by_cases g0 : left - f0.size < 0
  · go_wp2_with fail
    go_ret
    exact GivesInt.ret (leftD_no (by simp only [Dat.bulk, bulkAll]; omega)) (by go_grown)
  · skip
    go_wp2_with fail
    refine (szInstrS L1 A1 n1 c1 (left - f0.size) _ (by omega) (by omega) (hl1.below B0) ht1 hm1).mono ?_
    rintro e w1 ⟨rfl, hb⟩
    have HB2 := Lib.hid (HB0.out.trans (hb.mono (by simp)))
    clear hb
    by_cases g1 : left - f0.size - (Dat.l L1).bulk < 0
    · rw [show leftD (Dat.l L1) (left - f0.size) = -1 from if_pos g1]
      have hneg : left - (Dat.r [.s f0, .l L1]).bulk < 0 := by simp only [Dat.bulk, bulkAll] at g1 ⊢; omega
      clear hl1 ht1
      go_wp2_with fail
      go_ret
      exact GivesInt.ret (leftD_no hneg) HB2.out
    · rw [show leftD (Dat.l L1) (left - f0.size) = left - f0.size - (Dat.l L1).bulk from if_neg g1]
      have hpos : left - (Dat.r [.s f0, .l L1]).bulk = left - f0.size - (Dat.l L1).bulk := by simp only [Dat.bulk, bulkAll]; omega
      have hp0 : 0 ≤ left - f0.size - (Dat.l L1).bulk := by omega
      have HP := Lib.hid hpos
      clear hl1 ht1 hpos
      generalize left - f0.size - (Dat.l L1).bulk = rr at *
      go_wp2_with fail
      go_ret
      exact GivesInt.ret (by rw [leftD, if_neg (by rw [HP.out]; omega), HP.out]) HB2.out
set_option maxRecDepth 100000 in
set_option maxHeartbeats 2000000 in
theorem szMethodS (L : List Dat) (A : Option Addr) (n c : Nat) (left : Int) (w : World) (h0 : 0 ≤ left) (h1 : left ≤ 1099511627776) (h : Lies w (.l L) [.slice A n c]) (ht : ∀ x ∈ L, Has tyMethod x) (hn : n ≤ 9223372036854775807) : Calls Try.prog 68 #[.slice A n c, .int .i64 left] w (GivesInt (leftD (Dat.l L) left) w) := by
  have H := Lib.hid h
  have HT := Lib.hid ht
  have hc := h.count
  have HC := Lib.hid hc
  clear h ht hc
  by_cases g0 : left - n < 0
  · go_enter Try.func68, Try.ntmps68
    go_wp2
    go_ret
    exact GivesInt.ret (leftD_no (by have := HC.out; simp only [Dat.bulk]; omega)) (Below.refl _ _)
  · go_enter Try.func68, Try.ntmps68
    go_wp2
    go_loopw [1, 5] (fun lv iv wr => ∃ (i : Nat) (r : Int), i ≤ n ∧ iv = .int .i64 i ∧ lv = .int .i64 r ∧ r = left - n - bulkAll (L.take i) ∧ 0 ≤ r ∧ r ≤ left ∧ Below w.heap.size w wr) (fun _ iv _ => n - (intOf iv).toNat)
    case atStart => exact ⟨0, left - n, Nat.zero_le _, rfl, rfl, by simp [bulkAll], by omega, by omega, Below.refl _ _⟩
    case round =>
      obtain ⟨i, r, hin, rfl, rfl, hr, hr0, hr1, hb⟩ := hrel
      have HR := Lib.hid hr
      clear hr
      by_cases hlt : i < n
      · obtain ⟨b, off, d, xs, rfl, hbw, hzi, hlie, hlen, hcell⟩ := (H.out.below hb).elem (fun x hx => (HT.out x hx).width) hlt
        obtain ⟨f0, L1, A1, n1, c1, rfl, rfl, hf0, hl1, ht1, hm1⟩ := invMethod (HT.out d (List.mem_of_getElem? hzi)) hlie
        have r0 : wr.cell? ⟨b, off + i * 2, none⟩ = some (.string f0) := hcell 0 _ rfl
        have r1 : wr.cell? ⟨b, off + i * 2 + 1, none⟩ = some (.slice A1 n1 c1) := hcell 1 _ rfl
        have HZ := Lib.hid (bulk_next hzi)
        have HM := Lib.hid (bulk_take_le L (i + 1))
        have HBR := Lib.hid hb
        clear hzi hb hcell hlie
        go_wp2_with fail
        refine (szMethod f0 L1 A1 n1 c1 r _ hr0 (by omega) hf0 hl1 ht1 hm1).mono ?_
        rintro e w2 ⟨rfl, hb2⟩
        have HB2 := Lib.hid (HBR.out.trans (hb2.mono HBR.out.size))
        clear hb2 hl1 ht1
        by_cases g1 : r - (Dat.r [.s f0, .l L1]).bulk < 0
        · rw [show leftD (Dat.r [.s f0, .l L1]) r = -1 from if_pos g1]
          have hneg : left - (Dat.l L).bulk < 0 := by have h1 := HZ.out; have h2 := HM.out; have h3 := HC.out; have h4 := HR.out; rw [Dat.bulk]; omega
          go_wp2_with fail
          go_ret
          exact GivesInt.ret (leftD_no hneg) HB2.out
        · rw [show leftD (Dat.r [.s f0, .l L1]) r = r - (Dat.r [.s f0, .l L1]).bulk from if_neg g1]
          have HE : Hid (r - (Dat.r [.s f0, .l L1]).bulk = left - n - bulkAll (L.take (i + 1))) := Lib.hid (by have h1 := HZ.out; have h4 := HR.out; omega)
          have hp0 : 0 ≤ r - (Dat.r [.s f0, .l L1]).bulk := by omega
          have hp1 : r - (Dat.r [.s f0, .l L1]).bulk ≤ left := by omega
          generalize r - (Dat.r [.s f0, .l L1]).bulk = rr at *
          go_wp2_with fail
          go_roundw
          case rel => exact ⟨i + 1, rr, by omega, by go_num, rfl, HE.out, hp0, hp1, HB2.out⟩
          case measure => simp [intOf]; omega
      · obtain rfl : i = n := by omega
        have HBR := Lib.hid hb
        clear hb
        have hE : r = leftD (Dat.l L) left := by
          have h4 := HR.out
          have h3 := HC.out
          rw [List.take_of_length_le (by omega)] at h4
          rw [leftD, if_neg (by rw [Dat.bulk]; omega), Dat.bulk]
          omega
        have HE := Lib.hid hE
        clear hE
        go_wp2_with fail
        go_ret
        exact GivesInt.ret HE.out HBR.out
set_option maxHeartbeats 2000000 in
theorem szScript (f0 : ByteArray) (L1 : List Dat) (A1 : Option Addr) (n1 c1 : Nat) (left : Int) (w : World) (h0 : 0 ≤ left) (h1 : left ≤ 1099511627776) (hf0 : f0.size ≤ 9223372036854775807) (hl1 : Lies w (.l L1) [.slice A1 n1 c1]) (ht1 : ∀ x ∈ L1, Has tyMethod x) (hm1 : n1 ≤ 9223372036854775807) : Calls Try.prog 29 #[.agg #[.string f0, .slice A1 n1 c1], .int .i64 left] w (GivesInt (leftD (Dat.r [.s f0, .l L1]) left) w) := by
  have B0 : Below w.heap.size w (w.alloc (.cells #[.string f0, .slice A1 n1 c1] 51)) := by go_grown
  have HB0 := Lib.hid B0
  go_enter Try.func29, Try.ntmps29
  by_cases g0 : left - f0.size < 0
  · go_wp2_with fail
    go_ret
    exact GivesInt.ret (leftD_no (by simp only [Dat.bulk, bulkAll]; omega)) (by go_grown)
  · skip
    go_wp2_with fail
    refine (szMethodS L1 A1 n1 c1 (left - f0.size) _ (by omega) (by omega) (hl1.below B0) ht1 hm1).mono ?_
    rintro e w1 ⟨rfl, hb⟩
    have HB2 := Lib.hid (HB0.out.trans (hb.mono (by simp)))
    clear hb
    by_cases g1 : left - f0.size - (Dat.l L1).bulk < 0
    · rw [show leftD (Dat.l L1) (left - f0.size) = -1 from if_pos g1]
      have hneg : left - (Dat.r [.s f0, .l L1]).bulk < 0 := by simp only [Dat.bulk, bulkAll] at g1 ⊢; omega
      clear hl1 ht1
      go_wp2_with fail
      go_ret
      exact GivesInt.ret (leftD_no hneg) HB2.out
    · rw [show leftD (Dat.l L1) (left - f0.size) = left - f0.size - (Dat.l L1).bulk from if_neg g1]
      have hpos : left - (Dat.r [.s f0, .l L1]).bulk = left - f0.size - (Dat.l L1).bulk := by simp only [Dat.bulk, bulkAll]; omega
      have hp0 : 0 ≤ left - f0.size - (Dat.l L1).bulk := by omega
      have HP := Lib.hid hpos
      clear hl1 ht1 hpos
      generalize left - f0.size - (Dat.l L1).bulk = rr at *
      go_wp2_with fail
      go_ret
      exact GivesInt.ret (by rw [leftD, if_neg (by rw [HP.out]; omega), HP.out]) HB2.out
set_option maxRecDepth 100000 in
set_option maxHeartbeats 2000000 in
theorem szScriptS (L : List Dat) (A : Option Addr) (n c : Nat) (left : Int) (w : World) (h0 : 0 ≤ left) (h1 : left ≤ 1099511627776) (h : Lies w (.l L) [.slice A n c]) (ht : ∀ x ∈ L, Has tyScript x) (hn : n ≤ 9223372036854775807) : Calls Try.prog 32 #[.slice A n c, .int .i64 left] w (GivesInt (leftD (Dat.l L) left) w) := by
  have H := Lib.hid h
  have HT := Lib.hid ht
  have hc := h.count
  have HC := Lib.hid hc
  clear h ht hc
  by_cases g0 : left - n < 0
  · go_enter Try.func32, Try.ntmps32
    go_wp2
    go_ret
    exact GivesInt.ret (leftD_no (by have := HC.out; simp only [Dat.bulk]; omega)) (Below.refl _ _)
  · go_enter Try.func32, Try.ntmps32
    go_wp2
    go_loopw [1, 5] (fun lv iv wr => ∃ (i : Nat) (r : Int), i ≤ n ∧ iv = .int .i64 i ∧ lv = .int .i64 r ∧ r = left - n - bulkAll (L.take i) ∧ 0 ≤ r ∧ r ≤ left ∧ Below w.heap.size w wr) (fun _ iv _ => n - (intOf iv).toNat)
    case atStart => exact ⟨0, left - n, Nat.zero_le _, rfl, rfl, by simp [bulkAll], by omega, by omega, Below.refl _ _⟩
    case round =>
      obtain ⟨i, r, hin, rfl, rfl, hr, hr0, hr1, hb⟩ := hrel
      have HR := Lib.hid hr
      clear hr
      by_cases hlt : i < n
      · obtain ⟨b, off, d, xs, rfl, hbw, hzi, hlie, hlen, hcell⟩ := (H.out.below hb).elem (fun x hx => (HT.out x hx).width) hlt
        obtain ⟨f0, L1, A1, n1, c1, rfl, rfl, hf0, hl1, ht1, hm1⟩ := invScript (HT.out d (List.mem_of_getElem? hzi)) hlie
        have r0 : wr.cell? ⟨b, off + i * 2, none⟩ = some (.string f0) := hcell 0 _ rfl
        have r1 : wr.cell? ⟨b, off + i * 2 + 1, none⟩ = some (.slice A1 n1 c1) := hcell 1 _ rfl
        have HZ := Lib.hid (bulk_next hzi)
        have HM := Lib.hid (bulk_take_le L (i + 1))
        have HBR := Lib.hid hb
        clear hzi hb hcell hlie
        go_wp2_with fail
        refine (szScript f0 L1 A1 n1 c1 r _ hr0 (by omega) hf0 hl1 ht1 hm1).mono ?_
        rintro e w2 ⟨rfl, hb2⟩
        have HB2 := Lib.hid (HBR.out.trans (hb2.mono HBR.out.size))
        clear hb2 hl1 ht1
        by_cases g1 : r - (Dat.r [.s f0, .l L1]).bulk < 0
        · rw [show leftD (Dat.r [.s f0, .l L1]) r = -1 from if_pos g1]
          have hneg : left - (Dat.l L).bulk < 0 := by have h1 := HZ.out; have h2 := HM.out; have h3 := HC.out; have h4 := HR.out; rw [Dat.bulk]; omega
          go_wp2_with fail
          go_ret
          exact GivesInt.ret (leftD_no hneg) HB2.out
        · rw [show leftD (Dat.r [.s f0, .l L1]) r = r - (Dat.r [.s f0, .l L1]).bulk from if_neg g1]
          have HE : Hid (r - (Dat.r [.s f0, .l L1]).bulk = left - n - bulkAll (L.take (i + 1))) := Lib.hid (by have h1 := HZ.out; have h4 := HR.out; omega)
          have hp0 : 0 ≤ r - (Dat.r [.s f0, .l L1]).bulk := by omega
          have hp1 : r - (Dat.r [.s f0, .l L1]).bulk ≤ left := by omega
          generalize r - (Dat.r [.s f0, .l L1]).bulk = rr at *
          go_wp2_with fail
          go_roundw
          case rel => exact ⟨i + 1, rr, by omega, by go_num, rfl, HE.out, hp0, hp1, HB2.out⟩
          case measure => simp [intOf]; omega
      · obtain rfl : i = n := by omega
        have HBR := Lib.hid hb
        clear hb
        have hE : r = leftD (Dat.l L) left := by
          have h4 := HR.out
          have h3 := HC.out
          rw [List.take_of_length_le (by omega)] at h4
          rw [leftD, if_neg (by rw [Dat.bulk]; omega), Dat.bulk]
          omega
        have HE := Lib.hid hE
        clear hE
        go_wp2_with fail
        go_ret
        exact GivesInt.ret HE.out HBR.out
end Go.Proofs.Ytaepconmjmcbdaa
