/- Chapter 9's data, by program. -/
import Derived.Test.YtmeacgpebpfpbaaTyE1
import Derived.LoopTactic
import Derived.Lib.Hide
import Derived.Deep.QuietTactic
import Derived.BigQuiet
import Derived.Deep.RegionWith
import Derived.Handy
namespace Go.Proofs.Ytmeacgpebpfpbaa
open Go.RowKit
set_option linter.unusedVariables false
set_option linter.unusedSimpArgs false
theorem noneValue {L : List Dat} (ht : ∀ x ∈ L, Has tyValue x) : bulkAll L = 0 := bulk_none (t := tyValue) rfl ht
set_option maxRecDepth 100000 in
set_option maxHeartbeats 4000000 in
theorem szValueS (L : List Dat) (A : Option Addr) (n c : Nat) (left : Int) (w : World) (h0 : 0 ≤ left) (h1 : left ≤ 1099511627776) (h : Lies w (.l L) [.slice A n c]) (ht : ∀ x ∈ L, Has tyValue x) (hn : n ≤ 9223372036854775807) : Calls Try.prog 95 #[.slice A n c, .int .i64 left] w (GivesInt (leftD (Dat.l L) left) w) := by
  have hc : (Dat.l L).bulk = n := by rw [Dat.bulk, noneValue ht, h.count]; rfl
  have HC := Lib.hid hc
  clear h ht hc
  by_cases g0 : left - n < 0
  · go_enter Try.func95, Try.ntmps95
    go_wp2
    go_ret
    exact GivesInt.ret (leftD_no (by have := HC.out; omega)) (Below.refl _ _)
  · go_enter Try.func95, Try.ntmps95
    go_wp2
    go_ret
    exact GivesInt.ret (leftD_ok (by have := HC.out; omega) (by have := HC.out; omega)) (Below.refl _ _)
set_option maxHeartbeats 4000000 in
theorem szSent (f0 : Int) (f1 : ByteArray) (L2 : List Dat) (A2 : Option Addr) (n2 c2 : Nat) (f3 : Int) (f4_0 : Int) (f4_1 : Int) (f4_2 : Int) (left : Int) (w : World) (h0 : 0 ≤ left) (h1 : left ≤ 1099511627776) (hf1 : f1.size ≤ 9223372036854775807) (hl2 : Lies w (.l L2) [.slice A2 n2 c2]) (ht2 : ∀ x ∈ L2, Has tyValue x) (hm2 : n2 ≤ 9223372036854775807) : Calls Try.prog 147 #[.agg #[.int .i64 f0, .string f1, .slice A2 n2 c2, .int .i64 f3, .int .i64 f4_0, .int .i64 f4_1, .int .i64 f4_2], .int .i64 left] w (GivesInt (leftD (.r [.i f0, .s f1, .l L2, .i f3, .r [.i f4_0, .i f4_1, .i f4_2]]) left) w) := by
  have HL2 := Lib.hid hl2
  have HT2 := Lib.hid ht2
  clear hl2 ht2
  have X := Lib.hid ((Held.start w).push #[.int .i64 f0, .string f1, .slice A2 n2 c2, .int .i64 f3, .int .i64 f4_0, .int .i64 f4_1, .int .i64 f4_2] 185)
  go_enter Try.func147, Try.ntmps147
  by_cases g1 : left - f1.size < 0
  · go_wp2_with fail
    go_ret
    exact GivesInt.ret (leftD_no (by simp only [Dat.bulk, bulkAll] at *; omega)) X.out.1
  · skip
    go_wp2_with fail
    refine (szValueS L2 A2 n2 c2 (left - f1.size) _ (by omega) (by omega) (HL2.out.below (X.out.1)) HT2.out hm2).mono ?_
    rintro e w1 ⟨rfl, hb⟩
    replace X := Lib.hid (X.out.below hb)
    clear hb
    by_cases g2 : left - f1.size - (Dat.l L2).bulk < 0
    · rw [show leftD (Dat.l L2) (left - f1.size) = -1 from if_pos g2]
      have hneg : Hid (left - (.r [.i f0, .s f1, .l L2, .i f3, .r [.i f4_0, .i f4_1, .i f4_2]] : Dat).bulk < 0) := Lib.hid (by simp only [Dat.bulk, bulkAll] at *; omega)
      go_wp2_with fail
      go_ret
      exact GivesInt.ret (leftD_no hneg.out) X.out.1
    · rw [show leftD (Dat.l L2) (left - f1.size) = left - f1.size - (Dat.l L2).bulk from if_neg g2]
      obtain ⟨r2, hr2⟩ : ∃ r, r = left - f1.size - (Dat.l L2).bulk := ⟨_, rfl⟩
      rw [← hr2]
      have hp2 : 0 ≤ r2 := by omega
      have hu2 : r2 ≤ 1099511627776 := by omega
      have HR2 := Lib.hid hr2
      clear hr2 g2
      have hend : Hid (r2 = leftD (.r [.i f0, .s f1, .l L2, .i f3, .r [.i f4_0, .i f4_1, .i f4_2]]) left) := Lib.hid (leftD_ok (by have q0 := HR2.out; simp only [Dat.bulk, bulkAll] at *; omega) (by have q0 := HR2.out; simp only [Dat.bulk, bulkAll] at *; omega))
      go_wp2_with fail
      go_ret
      exact GivesInt.ret hend.out X.out.1
set_option maxRecDepth 100000 in
set_option maxHeartbeats 4000000 in
theorem szSentS (L : List Dat) (A : Option Addr) (n c : Nat) (left : Int) (w : World) (h0 : 0 ≤ left) (h1 : left ≤ 1099511627776) (h : Lies w (.l L) [.slice A n c]) (ht : ∀ x ∈ L, Has tySent x) (hn : n ≤ 9223372036854775807) : Calls Try.prog 86 #[.slice A n c, .int .i64 left] w (GivesInt (leftD (Dat.l L) left) w) := by
  have H := Lib.hid h
  have HT := Lib.hid ht
  have hc := h.count
  have HC := Lib.hid hc
  clear h ht hc
  by_cases g0 : left - n < 0
  · go_enter Try.func86, Try.ntmps86
    go_wp2
    go_ret
    exact GivesInt.ret (leftD_no (by have := HC.out; simp only [Dat.bulk]; omega)) (Below.refl _ _)
  · go_enter Try.func86, Try.ntmps86
    go_wp2
    go_loopw [1, 5] (fun lv iv wr => ∃ (i : Nat) (r : Int), i ≤ n ∧ iv = .int .i64 i ∧ lv = .int .i64 r ∧ r = left - n - bulkAll (L.take i) ∧ 0 ≤ r ∧ r ≤ left ∧ Below w.heap.size w wr) (fun _ iv _ => n - (intOf iv).toNat)
    case atStart => exact ⟨0, left - n, Nat.zero_le _, rfl, rfl, by simp [bulkAll], by omega, by omega, Below.refl _ _⟩
    case round =>
      obtain ⟨i, r, hin, rfl, rfl, hr, hr0, hr1, hb⟩ := hrel
      have HR := Lib.hid hr
      clear hr
      by_cases hlt : i < n
      · obtain ⟨b, off, d, xs, rfl, hbw, hzi, hlie, hlen, hcell⟩ := (H.out.below hb).elem (fun x hx => (HT.out x hx).width) hlt
        obtain ⟨f0, f1, L2, A2, n2, c2, f3, f4_0, f4_1, f4_2, rfl, rfl, hf1, hl2, ht2, hm2⟩ := invSent (HT.out d (List.mem_of_getElem? hzi)) hlie
        have r0 : wr.cell? ⟨b, off + i * 7, none⟩ = some (.int .i64 f0) := hcell 0 _ rfl
        have r1 : wr.cell? ⟨b, off + i * 7 + 1, none⟩ = some (.string f1) := hcell 1 _ rfl
        have r2 : wr.cell? ⟨b, off + i * 7 + 2, none⟩ = some (.slice A2 n2 c2) := hcell 2 _ rfl
        have r3 : wr.cell? ⟨b, off + i * 7 + 3, none⟩ = some (.int .i64 f3) := hcell 3 _ rfl
        have r4 : wr.cell? ⟨b, off + i * 7 + 4, none⟩ = some (.int .i64 f4_0) := hcell 4 _ rfl
        have r5 : wr.cell? ⟨b, off + i * 7 + 5, none⟩ = some (.int .i64 f4_1) := hcell 5 _ rfl
        have r6 : wr.cell? ⟨b, off + i * 7 + 6, none⟩ = some (.int .i64 f4_2) := hcell 6 _ rfl
        have HZ := Lib.hid (bulk_next hzi)
        have HM := Lib.hid (bulk_take_le L (i + 1))
        have HBR := Lib.hid hb
        clear hzi hb hcell hlie
        go_wp2_with fail
        refine (szSent f0 f1 L2 A2 n2 c2 f3 f4_0 f4_1 f4_2 r _ hr0 (by omega) hf1 hl2 ht2 hm2).mono ?_
        rintro e w2 ⟨rfl, hb2⟩
        have HB2 := Lib.hid (HBR.out.trans (hb2.mono HBR.out.size))
        clear hb2 hl2 ht2
        by_cases g1 : r - (.r [.i f0, .s f1, .l L2, .i f3, .r [.i f4_0, .i f4_1, .i f4_2]] : Dat).bulk < 0
        · rw [show leftD (.r [.i f0, .s f1, .l L2, .i f3, .r [.i f4_0, .i f4_1, .i f4_2]]) r = -1 from if_pos g1]
          have hneg : left - (Dat.l L).bulk < 0 := by have h1 := HZ.out; have h2 := HM.out; have h3 := HC.out; have h4 := HR.out; rw [Dat.bulk]; omega
          go_wp2_with fail
          go_ret
          exact GivesInt.ret (leftD_no hneg) HB2.out
        · rw [show leftD (.r [.i f0, .s f1, .l L2, .i f3, .r [.i f4_0, .i f4_1, .i f4_2]]) r = r - (.r [.i f0, .s f1, .l L2, .i f3, .r [.i f4_0, .i f4_1, .i f4_2]] : Dat).bulk from if_neg g1]
          have HE : Hid (r - (.r [.i f0, .s f1, .l L2, .i f3, .r [.i f4_0, .i f4_1, .i f4_2]] : Dat).bulk = left - n - bulkAll (L.take (i + 1))) := Lib.hid (by have h1 := HZ.out; have h4 := HR.out; omega)
          have hp0 : 0 ≤ r - (.r [.i f0, .s f1, .l L2, .i f3, .r [.i f4_0, .i f4_1, .i f4_2]] : Dat).bulk := by omega
          have hp1 : r - (.r [.i f0, .s f1, .l L2, .i f3, .r [.i f4_0, .i f4_1, .i f4_2]] : Dat).bulk ≤ left := by omega
          generalize r - (.r [.i f0, .s f1, .l L2, .i f3, .r [.i f4_0, .i f4_1, .i f4_2]] : Dat).bulk = rr at *
          go_wp2_with fail
          go_roundw
          case rel => exact ⟨i + 1, rr, by omega, by go_num, rfl, HE.out, hp0, hp1, HB2.out⟩
          case measure => simp [intOf]; omega
      · obtain rfl : i = n := by omega
        have HBR := Lib.hid hb
        clear hb
        have hE : r = leftD (Dat.l L) left := by
          have h4 := HR.out
          have h3 := HC.out
          rw [List.take_of_length_le (by omega)] at h4
          rw [leftD, if_neg (by rw [Dat.bulk]; omega), Dat.bulk]
          omega
        have HE := Lib.hid hE
        clear hE
        go_wp2_with fail
        go_ret
        exact GivesInt.ret HE.out HBR.out
theorem noneAsker {L : List Dat} (ht : ∀ x ∈ L, Has tyAsker x) : bulkAll L = 0 := bulk_none (t := tyAsker) rfl ht
set_option maxRecDepth 100000 in
set_option maxHeartbeats 4000000 in
theorem szAskerS (L : List Dat) (A : Option Addr) (n c : Nat) (left : Int) (w : World) (h0 : 0 ≤ left) (h1 : left ≤ 1099511627776) (h : Lies w (.l L) [.slice A n c]) (ht : ∀ x ∈ L, Has tyAsker x) (hn : n ≤ 9223372036854775807) : Calls Try.prog 96 #[.slice A n c, .int .i64 left] w (GivesInt (leftD (Dat.l L) left) w) := by
  have hc : (Dat.l L).bulk = n := by rw [Dat.bulk, noneAsker ht, h.count]; rfl
  have HC := Lib.hid hc
  clear h ht hc
  by_cases g0 : left - n < 0
  · go_enter Try.func96, Try.ntmps96
    go_wp2
    go_ret
    exact GivesInt.ret (leftD_no (by have := HC.out; omega)) (Below.refl _ _)
  · go_enter Try.func96, Try.ntmps96
    go_wp2
    go_ret
    exact GivesInt.ret (leftD_ok (by have := HC.out; omega) (by have := HC.out; omega)) (Below.refl _ _)
set_option maxHeartbeats 4000000 in
theorem szEntity (f0 : Int) (f1 : Int) (L2 : List Dat) (A2 : Option Addr) (n2 c2 : Nat) (f3 : Int) (f4_0 : Int) (f4_1 : Int) (L5 : List Dat) (A5 : Option Addr) (n5 c5 : Nat) (L6 : List Dat) (A6 : Option Addr) (n6 c6 : Nat) (f7 : Int) (f8 : Int) (f9 : Int) (f10 : Int) (left : Int) (w : World) (h0 : 0 ≤ left) (h1 : left ≤ 1099511627776) (hl2 : Lies w (.l L2) [.slice A2 n2 c2]) (ht2 : ∀ x ∈ L2, Has tyValue x) (hm2 : n2 ≤ 9223372036854775807) (hl5 : Lies w (.l L5) [.slice A5 n5 c5]) (ht5 : ∀ x ∈ L5, Has tySent x) (hm5 : n5 ≤ 9223372036854775807) (hl6 : Lies w (.l L6) [.slice A6 n6 c6]) (ht6 : ∀ x ∈ L6, Has tyAsker x) (hm6 : n6 ≤ 9223372036854775807) : Calls Try.prog 35 #[.agg #[.int .i64 f0, .int .i64 f1, .slice A2 n2 c2, .int .i64 f3, .int .i64 f4_0, .int .i64 f4_1, .slice A5 n5 c5, .slice A6 n6 c6, .int .i64 f7, .int .i64 f8, .int .i64 f9, .int .i64 f10], .int .i64 left] w (GivesInt (leftD (.r [.i f0, .i f1, .l L2, .i f3, .r [.i f4_0, .i f4_1], .l L5, .l L6, .i f7, .i f8, .i f9, .i f10]) left) w) := by
  have HL2 := Lib.hid hl2
  have HT2 := Lib.hid ht2
  clear hl2 ht2
  have HL5 := Lib.hid hl5
  have HT5 := Lib.hid ht5
  clear hl5 ht5
  have HL6 := Lib.hid hl6
  have HT6 := Lib.hid ht6
  clear hl6 ht6
  have X := Lib.hid ((Held.start w).push #[.int .i64 f0, .int .i64 f1, .slice A2 n2 c2, .int .i64 f3, .int .i64 f4_0, .int .i64 f4_1, .slice A5 n5 c5, .slice A6 n6 c6, .int .i64 f7, .int .i64 f8, .int .i64 f9, .int .i64 f10] 71)
  go_enter Try.func35, Try.ntmps35
  go_wp2_with fail
  refine (szValueS L2 A2 n2 c2 (left) _ (by omega) (by omega) (HL2.out.below (X.out.1)) HT2.out hm2).mono ?_
  rintro e w1 ⟨rfl, hb⟩
  replace X := Lib.hid (X.out.below hb)
  clear hb
  by_cases g2 : left - (Dat.l L2).bulk < 0
  · rw [show leftD (Dat.l L2) (left) = -1 from if_pos g2]
    have hneg : Hid (left - (.r [.i f0, .i f1, .l L2, .i f3, .r [.i f4_0, .i f4_1], .l L5, .l L6, .i f7, .i f8, .i f9, .i f10] : Dat).bulk < 0) := Lib.hid (by simp only [Dat.bulk, bulkAll] at *; omega)
    go_wp2_with fail
    go_ret
    exact GivesInt.ret (leftD_no hneg.out) X.out.1
  · rw [show leftD (Dat.l L2) (left) = left - (Dat.l L2).bulk from if_neg g2]
    obtain ⟨r2, hr2⟩ : ∃ r, r = left - (Dat.l L2).bulk := ⟨_, rfl⟩
    rw [← hr2]
    have hp2 : 0 ≤ r2 := by omega
    have hu2 : r2 ≤ 1099511627776 := by omega
    have HR2 := Lib.hid hr2
    clear hr2 g2
    have x0 := X.out.at_ (g := w.heap.size) (i := 0) (v := .int .i64 f0) (cs := [.int .i64 f0, .int .i64 f1, .slice A2 n2 c2, .int .i64 f3, .int .i64 f4_0, .int .i64 f4_1, .slice A5 n5 c5, .slice A6 n6 c6, .int .i64 f7, .int .i64 f8, .int .i64 f9, .int .i64 f10]) (by repeat (first | exact List.mem_cons_self | refine List.mem_cons_of_mem _ ?_)) rfl
    have x1 := X.out.at_ (g := w.heap.size) (i := 1) (v := .int .i64 f1) (cs := [.int .i64 f0, .int .i64 f1, .slice A2 n2 c2, .int .i64 f3, .int .i64 f4_0, .int .i64 f4_1, .slice A5 n5 c5, .slice A6 n6 c6, .int .i64 f7, .int .i64 f8, .int .i64 f9, .int .i64 f10]) (by repeat (first | exact List.mem_cons_self | refine List.mem_cons_of_mem _ ?_)) rfl
    have x2 := X.out.at_ (g := w.heap.size) (i := 2) (v := .slice A2 n2 c2) (cs := [.int .i64 f0, .int .i64 f1, .slice A2 n2 c2, .int .i64 f3, .int .i64 f4_0, .int .i64 f4_1, .slice A5 n5 c5, .slice A6 n6 c6, .int .i64 f7, .int .i64 f8, .int .i64 f9, .int .i64 f10]) (by repeat (first | exact List.mem_cons_self | refine List.mem_cons_of_mem _ ?_)) rfl
    have x3 := X.out.at_ (g := w.heap.size) (i := 3) (v := .int .i64 f3) (cs := [.int .i64 f0, .int .i64 f1, .slice A2 n2 c2, .int .i64 f3, .int .i64 f4_0, .int .i64 f4_1, .slice A5 n5 c5, .slice A6 n6 c6, .int .i64 f7, .int .i64 f8, .int .i64 f9, .int .i64 f10]) (by repeat (first | exact List.mem_cons_self | refine List.mem_cons_of_mem _ ?_)) rfl
    have x4 := X.out.at_ (g := w.heap.size) (i := 4) (v := .int .i64 f4_0) (cs := [.int .i64 f0, .int .i64 f1, .slice A2 n2 c2, .int .i64 f3, .int .i64 f4_0, .int .i64 f4_1, .slice A5 n5 c5, .slice A6 n6 c6, .int .i64 f7, .int .i64 f8, .int .i64 f9, .int .i64 f10]) (by repeat (first | exact List.mem_cons_self | refine List.mem_cons_of_mem _ ?_)) rfl
    have x5 := X.out.at_ (g := w.heap.size) (i := 5) (v := .int .i64 f4_1) (cs := [.int .i64 f0, .int .i64 f1, .slice A2 n2 c2, .int .i64 f3, .int .i64 f4_0, .int .i64 f4_1, .slice A5 n5 c5, .slice A6 n6 c6, .int .i64 f7, .int .i64 f8, .int .i64 f9, .int .i64 f10]) (by repeat (first | exact List.mem_cons_self | refine List.mem_cons_of_mem _ ?_)) rfl
    have x6 := X.out.at_ (g := w.heap.size) (i := 6) (v := .slice A5 n5 c5) (cs := [.int .i64 f0, .int .i64 f1, .slice A2 n2 c2, .int .i64 f3, .int .i64 f4_0, .int .i64 f4_1, .slice A5 n5 c5, .slice A6 n6 c6, .int .i64 f7, .int .i64 f8, .int .i64 f9, .int .i64 f10]) (by repeat (first | exact List.mem_cons_self | refine List.mem_cons_of_mem _ ?_)) rfl
    have x7 := X.out.at_ (g := w.heap.size) (i := 7) (v := .slice A6 n6 c6) (cs := [.int .i64 f0, .int .i64 f1, .slice A2 n2 c2, .int .i64 f3, .int .i64 f4_0, .int .i64 f4_1, .slice A5 n5 c5, .slice A6 n6 c6, .int .i64 f7, .int .i64 f8, .int .i64 f9, .int .i64 f10]) (by repeat (first | exact List.mem_cons_self | refine List.mem_cons_of_mem _ ?_)) rfl
    have x8 := X.out.at_ (g := w.heap.size) (i := 8) (v := .int .i64 f7) (cs := [.int .i64 f0, .int .i64 f1, .slice A2 n2 c2, .int .i64 f3, .int .i64 f4_0, .int .i64 f4_1, .slice A5 n5 c5, .slice A6 n6 c6, .int .i64 f7, .int .i64 f8, .int .i64 f9, .int .i64 f10]) (by repeat (first | exact List.mem_cons_self | refine List.mem_cons_of_mem _ ?_)) rfl
    have x9 := X.out.at_ (g := w.heap.size) (i := 9) (v := .int .i64 f8) (cs := [.int .i64 f0, .int .i64 f1, .slice A2 n2 c2, .int .i64 f3, .int .i64 f4_0, .int .i64 f4_1, .slice A5 n5 c5, .slice A6 n6 c6, .int .i64 f7, .int .i64 f8, .int .i64 f9, .int .i64 f10]) (by repeat (first | exact List.mem_cons_self | refine List.mem_cons_of_mem _ ?_)) rfl
    have x10 := X.out.at_ (g := w.heap.size) (i := 10) (v := .int .i64 f9) (cs := [.int .i64 f0, .int .i64 f1, .slice A2 n2 c2, .int .i64 f3, .int .i64 f4_0, .int .i64 f4_1, .slice A5 n5 c5, .slice A6 n6 c6, .int .i64 f7, .int .i64 f8, .int .i64 f9, .int .i64 f10]) (by repeat (first | exact List.mem_cons_self | refine List.mem_cons_of_mem _ ?_)) rfl
    have x11 := X.out.at_ (g := w.heap.size) (i := 11) (v := .int .i64 f10) (cs := [.int .i64 f0, .int .i64 f1, .slice A2 n2 c2, .int .i64 f3, .int .i64 f4_0, .int .i64 f4_1, .slice A5 n5 c5, .slice A6 n6 c6, .int .i64 f7, .int .i64 f8, .int .i64 f9, .int .i64 f10]) (by repeat (first | exact List.mem_cons_self | refine List.mem_cons_of_mem _ ?_)) rfl
    go_wp2_with fail
    refine (szSentS L5 A5 n5 c5 (r2) _ (by omega) (by omega) (HL5.out.below (X.out.1)) HT5.out hm5).mono ?_
    rintro e w2 ⟨rfl, hb⟩
    clear x0 x1 x2 x3 x4 x5 x6 x7 x8 x9 x10 x11
    replace X := Lib.hid (X.out.below hb)
    clear hb
    by_cases g5 : r2 - (Dat.l L5).bulk < 0
    · rw [show leftD (Dat.l L5) (r2) = -1 from if_pos g5]
      have hneg : Hid (left - (.r [.i f0, .i f1, .l L2, .i f3, .r [.i f4_0, .i f4_1], .l L5, .l L6, .i f7, .i f8, .i f9, .i f10] : Dat).bulk < 0) := Lib.hid (by have q0 := HR2.out; simp only [Dat.bulk, bulkAll] at *; omega)
      go_wp2_with fail
      go_ret
      exact GivesInt.ret (leftD_no hneg.out) X.out.1
    · rw [show leftD (Dat.l L5) (r2) = r2 - (Dat.l L5).bulk from if_neg g5]
      obtain ⟨r5, hr5⟩ : ∃ r, r = r2 - (Dat.l L5).bulk := ⟨_, rfl⟩
      rw [← hr5]
      have hp5 : 0 ≤ r5 := by omega
      have hu5 : r5 ≤ 1099511627776 := by omega
      have HR5 := Lib.hid hr5
      clear hr5 g5
      have x0 := X.out.at_ (g := w.heap.size) (i := 0) (v := .int .i64 f0) (cs := [.int .i64 f0, .int .i64 f1, .slice A2 n2 c2, .int .i64 f3, .int .i64 f4_0, .int .i64 f4_1, .slice A5 n5 c5, .slice A6 n6 c6, .int .i64 f7, .int .i64 f8, .int .i64 f9, .int .i64 f10]) (by repeat (first | exact List.mem_cons_self | refine List.mem_cons_of_mem _ ?_)) rfl
      have x1 := X.out.at_ (g := w.heap.size) (i := 1) (v := .int .i64 f1) (cs := [.int .i64 f0, .int .i64 f1, .slice A2 n2 c2, .int .i64 f3, .int .i64 f4_0, .int .i64 f4_1, .slice A5 n5 c5, .slice A6 n6 c6, .int .i64 f7, .int .i64 f8, .int .i64 f9, .int .i64 f10]) (by repeat (first | exact List.mem_cons_self | refine List.mem_cons_of_mem _ ?_)) rfl
      have x2 := X.out.at_ (g := w.heap.size) (i := 2) (v := .slice A2 n2 c2) (cs := [.int .i64 f0, .int .i64 f1, .slice A2 n2 c2, .int .i64 f3, .int .i64 f4_0, .int .i64 f4_1, .slice A5 n5 c5, .slice A6 n6 c6, .int .i64 f7, .int .i64 f8, .int .i64 f9, .int .i64 f10]) (by repeat (first | exact List.mem_cons_self | refine List.mem_cons_of_mem _ ?_)) rfl
      have x3 := X.out.at_ (g := w.heap.size) (i := 3) (v := .int .i64 f3) (cs := [.int .i64 f0, .int .i64 f1, .slice A2 n2 c2, .int .i64 f3, .int .i64 f4_0, .int .i64 f4_1, .slice A5 n5 c5, .slice A6 n6 c6, .int .i64 f7, .int .i64 f8, .int .i64 f9, .int .i64 f10]) (by repeat (first | exact List.mem_cons_self | refine List.mem_cons_of_mem _ ?_)) rfl
      have x4 := X.out.at_ (g := w.heap.size) (i := 4) (v := .int .i64 f4_0) (cs := [.int .i64 f0, .int .i64 f1, .slice A2 n2 c2, .int .i64 f3, .int .i64 f4_0, .int .i64 f4_1, .slice A5 n5 c5, .slice A6 n6 c6, .int .i64 f7, .int .i64 f8, .int .i64 f9, .int .i64 f10]) (by repeat (first | exact List.mem_cons_self | refine List.mem_cons_of_mem _ ?_)) rfl
      have x5 := X.out.at_ (g := w.heap.size) (i := 5) (v := .int .i64 f4_1) (cs := [.int .i64 f0, .int .i64 f1, .slice A2 n2 c2, .int .i64 f3, .int .i64 f4_0, .int .i64 f4_1, .slice A5 n5 c5, .slice A6 n6 c6, .int .i64 f7, .int .i64 f8, .int .i64 f9, .int .i64 f10]) (by repeat (first | exact List.mem_cons_self | refine List.mem_cons_of_mem _ ?_)) rfl
      have x6 := X.out.at_ (g := w.heap.size) (i := 6) (v := .slice A5 n5 c5) (cs := [.int .i64 f0, .int .i64 f1, .slice A2 n2 c2, .int .i64 f3, .int .i64 f4_0, .int .i64 f4_1, .slice A5 n5 c5, .slice A6 n6 c6, .int .i64 f7, .int .i64 f8, .int .i64 f9, .int .i64 f10]) (by repeat (first | exact List.mem_cons_self | refine List.mem_cons_of_mem _ ?_)) rfl
      have x7 := X.out.at_ (g := w.heap.size) (i := 7) (v := .slice A6 n6 c6) (cs := [.int .i64 f0, .int .i64 f1, .slice A2 n2 c2, .int .i64 f3, .int .i64 f4_0, .int .i64 f4_1, .slice A5 n5 c5, .slice A6 n6 c6, .int .i64 f7, .int .i64 f8, .int .i64 f9, .int .i64 f10]) (by repeat (first | exact List.mem_cons_self | refine List.mem_cons_of_mem _ ?_)) rfl
      have x8 := X.out.at_ (g := w.heap.size) (i := 8) (v := .int .i64 f7) (cs := [.int .i64 f0, .int .i64 f1, .slice A2 n2 c2, .int .i64 f3, .int .i64 f4_0, .int .i64 f4_1, .slice A5 n5 c5, .slice A6 n6 c6, .int .i64 f7, .int .i64 f8, .int .i64 f9, .int .i64 f10]) (by repeat (first | exact List.mem_cons_self | refine List.mem_cons_of_mem _ ?_)) rfl
      have x9 := X.out.at_ (g := w.heap.size) (i := 9) (v := .int .i64 f8) (cs := [.int .i64 f0, .int .i64 f1, .slice A2 n2 c2, .int .i64 f3, .int .i64 f4_0, .int .i64 f4_1, .slice A5 n5 c5, .slice A6 n6 c6, .int .i64 f7, .int .i64 f8, .int .i64 f9, .int .i64 f10]) (by repeat (first | exact List.mem_cons_self | refine List.mem_cons_of_mem _ ?_)) rfl
      have x10 := X.out.at_ (g := w.heap.size) (i := 10) (v := .int .i64 f9) (cs := [.int .i64 f0, .int .i64 f1, .slice A2 n2 c2, .int .i64 f3, .int .i64 f4_0, .int .i64 f4_1, .slice A5 n5 c5, .slice A6 n6 c6, .int .i64 f7, .int .i64 f8, .int .i64 f9, .int .i64 f10]) (by repeat (first | exact List.mem_cons_self | refine List.mem_cons_of_mem _ ?_)) rfl
      have x11 := X.out.at_ (g := w.heap.size) (i := 11) (v := .int .i64 f10) (cs := [.int .i64 f0, .int .i64 f1, .slice A2 n2 c2, .int .i64 f3, .int .i64 f4_0, .int .i64 f4_1, .slice A5 n5 c5, .slice A6 n6 c6, .int .i64 f7, .int .i64 f8, .int .i64 f9, .int .i64 f10]) (by repeat (first | exact List.mem_cons_self | refine List.mem_cons_of_mem _ ?_)) rfl
      go_wp2_with fail
      refine (szAskerS L6 A6 n6 c6 (r5) _ (by omega) (by omega) (HL6.out.below (X.out.1)) HT6.out hm6).mono ?_
      rintro e w3 ⟨rfl, hb⟩
      clear x0 x1 x2 x3 x4 x5 x6 x7 x8 x9 x10 x11
      replace X := Lib.hid (X.out.below hb)
      clear hb
      by_cases g6 : r5 - (Dat.l L6).bulk < 0
      · rw [show leftD (Dat.l L6) (r5) = -1 from if_pos g6]
        have hneg : Hid (left - (.r [.i f0, .i f1, .l L2, .i f3, .r [.i f4_0, .i f4_1], .l L5, .l L6, .i f7, .i f8, .i f9, .i f10] : Dat).bulk < 0) := Lib.hid (by have q0 := HR2.out; have q1 := HR5.out; simp only [Dat.bulk, bulkAll] at *; omega)
        go_wp2_with fail
        go_ret
        exact GivesInt.ret (leftD_no hneg.out) X.out.1
      · rw [show leftD (Dat.l L6) (r5) = r5 - (Dat.l L6).bulk from if_neg g6]
        obtain ⟨r6, hr6⟩ : ∃ r, r = r5 - (Dat.l L6).bulk := ⟨_, rfl⟩
        rw [← hr6]
        have hp6 : 0 ≤ r6 := by omega
        have hu6 : r6 ≤ 1099511627776 := by omega
        have HR6 := Lib.hid hr6
        clear hr6 g6
        have hend : Hid (r6 = leftD (.r [.i f0, .i f1, .l L2, .i f3, .r [.i f4_0, .i f4_1], .l L5, .l L6, .i f7, .i f8, .i f9, .i f10]) left) := Lib.hid (leftD_ok (by have q0 := HR2.out; have q1 := HR5.out; have q2 := HR6.out; simp only [Dat.bulk, bulkAll] at *; omega) (by have q0 := HR2.out; have q1 := HR5.out; have q2 := HR6.out; simp only [Dat.bulk, bulkAll] at *; omega))
        go_wp2_with fail
        go_ret
        exact GivesInt.ret hend.out X.out.1
end Go.Proofs.Ytmeacgpebpfpbaa
