/- The laws' marks looked at: methods, scripts. -/
import Derived.Test.YthgcodbcafpmhaaGreatDoorMarkA
namespace Go.Proofs.YthgcodbcafpmhaaGreatDoor
open Go.RowKit
set_option linter.unusedVariables false
set_option linter.unusedSimpArgs false
theorem part2 {w : World} {f0 : ByteArray} {L1 : List Dat} {xs : List Value} (h : Lies w (.r [.s f0, .l L1]) xs) : ∃ (A1 : Option Addr) (n1 c1 : Nat), xs = [.string f0, .slice A1 n1 c1] ∧ Lies w (.l L1) [.slice A1 n1 c1] := by
  simp only [Lies, LiesAll] at h
  obtain ⟨e0, q0, rfl, rfl, e1, q1, rfl, ⟨A1, n1, c1, rfl, hn1, hh1⟩, rfl⟩ := h
  exact ⟨A1, n1, c1, rfl, by rw [Lies]; exact ⟨A1, n1, c1, rfl, hn1, hh1⟩⟩
theorem recMethod {d : Dat} (h : Has tyMethod d) : ∃ (f0 : ByteArray) (L1 : List Dat), d = .r [.s f0, .l L1] ∧ ∀ x ∈ L1, Has tyInstr x := by
  simp only [tyMethod, Has, HasAll] at h
  obtain ⟨ds, rfl, d0, r0, rfl, ⟨f0, rfl, hf0⟩, d1, r1, rfl, ⟨L1, rfl, hm1, ht1⟩, rfl⟩ := h
  exact ⟨f0, L1, rfl, ht1⟩
theorem recScript {d : Dat} (h : Has tyScript d) : ∃ (f0 : ByteArray) (L1 : List Dat), d = .r [.s f0, .l L1] ∧ ∀ x ∈ L1, Has tyMethod x := by
  simp only [tyScript, Has, HasAll] at h
  obtain ⟨ds, rfl, d0, r0, rfl, ⟨f0, rfl, hf0⟩, d1, r1, rfl, ⟨L1, rfl, hm1, ht1⟩, rfl⟩ := h
  exact ⟨f0, L1, rfl, ht1⟩
set_option maxRecDepth 100000 in
set_option maxHeartbeats 8000000 in
theorem heldMethodS (L : List Dat) (A : Option Addr) (n c : Nat) (z : Int) (w : World) (h : Lies w (.l (mkAll L z)) [.slice A n c]) (ht : ∀ x ∈ L, Has tyMethod x) (h0 : 0 < z) (h1 : z + cntAll L ≤ 1099511627776) (hn : n ≤ 1099511627776) :
    Calls Tryz.prog 61 #[.slice A n c, .int .i64 z] w (GivesInt (z + cntAll L) w) := by
  have HT := Lib.hid ht
  have hc := h.count
  rw [mkAll_len] at hc
  have HC := Lib.hid hc
  have H := Lib.hid h
  have H1 := Lib.hid h1
  have hk : ∀ x ∈ mkAll L z, x.width = 2 := fun x hx => by
    obtain ⟨j, hj, rfl⟩ := List.getElem_of_mem hx
    have hjl : j < L.length := by rw [mkAll_len] at hj; exact hj
    have e := mkAll_at (z := z) (List.getElem?_eq_getElem hjl)
    rw [List.getElem?_eq_getElem hj] at e
    rw [Option.some.inj e, mkd_width]
    exact (ht _ (List.getElem_mem hjl)).width
  have HK := Lib.hid hk
  clear h ht h1 hc hk
  go_enter Tryz.func61, Tryz.ntmps61
  go_wp2
  go_loopw [1, 5] (fun zv iv wr => ∃ (i : Nat) (y : Int), i ≤ n ∧ iv = .int .i64 i ∧ zv = .int .i64 y ∧ y = z + cntAll (L.take i) ∧ Below w.heap.size w wr) (fun _ iv _ => n - (intOf iv).toNat)
  case atStart => exact ⟨0, z, Nat.zero_le _, rfl, rfl, by simp [cntAll], Below.refl _ _⟩
  case round =>
    obtain ⟨i, y, hin, rfl, rfl, hy, hb⟩ := hrel
    have HY := Lib.hid hy
    have HB := Lib.hid hb
    clear hy hb
    by_cases hlt : i < n
    · have hzi : L[i]? = some (L[i]'(by have := HC.out; omega)) := List.getElem?_eq_getElem (by have := HC.out; omega)
      generalize L[i]'(by have := HC.out; omega) = d at hzi
      obtain ⟨b, off, d', xs, rfl, hbw, hdi, hlie, hlen, hcell⟩ := (H.out.below HB.out).elem HK.out hlt
      obtain rfl : mkd d (z + cntAll (L.take i)) = d' := by rw [mkAll_at hzi] at hdi; exact Option.some.inj hdi
      rw [← HY.out] at hlie
      obtain ⟨f0, L1, rfl, ht1⟩ := recMethod (HT.out d (List.mem_of_getElem? hzi))
      obtain ⟨A1, n1, c1, rfl, hl1⟩ := part2 (show Lies wr (.r [.s (mtext y.toNat), .l (mkAll L1 (y + 1))]) xs from hlie)
      have hcn : cntAll (L.take (i + 1)) = cntAll (L.take i) + (Dat.r [.s f0, .l L1]).cnt := cnt_next hzi
      have hce : (Dat.r [.s f0, .l L1]).cnt = 1 + cntAll L1 := by simp [Dat.cnt, cntAll]
      rw [hce] at hcn
      have hcl := cnt_take_le L (i + 1)
      have hy0 : 0 < y := by have := HY.out; omega
      have hy1 : y + 1 + cntAll L1 ≤ 1099511627776 := by have h1 := HY.out; have h2 := H1.out; omega
      have hn1 : n1 ≤ 1099511627776 := by have h1 := len_le_cnt (fun x hx => cntposInstr (ht1 x hx)); have h2 := hl1.count; rw [mkAll_len] at h2; omega
      have r0 : wr.cell? ⟨b, off + i * 2, none⟩ = some (.string (mtext y.toNat)) := hcell 0 _ rfl
      have r1 : wr.cell? ⟨b, off + i * 2 + 1, none⟩ = some (.slice A1 n1 c1) := hcell 1 _ rfl
      have K0 : Hid (wr.drew.cell? ⟨b, off + i * 2, none⟩ = some (.string (mtext y.toNat))) := Lib.hid r0
      have R1 := Lib.hid r1
      have HL1 := Lib.hid hl1
      have HT1 := Lib.hid ht1
      have HCN := Lib.hid hcn
      have hz8 : (0 : Int) ≤ y + 1 + cntAll L1 := by omega
      have hz9 : (decide (y + 1 + (cntAll L1 : Int) < 0)) = false := by simp; omega
      clear hcn hzi hdi hlie hlen hcell r0 r1 hl1 ht1 hce
      go_wp2_with fail
      go_region_held3 (fun w' => w'.cell? ⟨b, off + i * 2, none⟩ = some (.string (mtext y.toNat)))
        (first | exact K0.out | exact K1.out)
        ((go_at_call 59; refine (markTextZ _ _ (by omega) (by omega)).mono ?_; rintro e w2 ⟨rfl, hb2⟩; have K1 := Lib.hid (cell_low hb2 (by show b < wr.drew.heap.size; exact hbw) K0.out); have p1 := cell_low (show Below wr.heap.size wr w2 from (Below.refl _ _).drew.trans hb2) hbw R1.out; have HB3 := Lib.hid (show Below wr.heap.size wr w2 from (Below.refl _ _).drew.trans hb2); have HB2 := Lib.hid (HB.out.trans ((show Below wr.heap.size wr w2 from (Below.refl _ _).drew.trans hb2).mono HB.out.size)); clear hb2))
      all_goals (
        go_wp2_with fail
        refine (heldInstrS L1 A1 n1 c1 (y + 1) _ (HL1.out.below HB3.out) HT1.out (by omega) (by omega) hn1).mono ?_
        rintro e w3 ⟨rfl, hb3⟩
        have HB4 := Lib.hid (HB2.out.trans (hb3.mono HB2.out.size))
        clear hb3
        go_wp2_with fail
        go_roundw
        case rel =>
          refine ⟨i + 1, _, by omega, by go_num, rfl, ?_, HB4.out⟩
          have h1 := HY.out
          have h2 := HCN.out
          omega
        case measure => simp [intOf]; omega)
    · obtain rfl : i = n := by omega
      have HE : Hid (y = z + cntAll L) := Lib.hid (by rw [HY.out, List.take_of_length_le (by have := HC.out; omega)])
      go_wp2_with fail
      go_ret
      exact GivesInt.ret HE.out HB.out
set_option maxRecDepth 100000 in
set_option maxHeartbeats 8000000 in
theorem heldScriptS (L : List Dat) (A : Option Addr) (n c : Nat) (z : Int) (w : World) (h : Lies w (.l (mkAll L z)) [.slice A n c]) (ht : ∀ x ∈ L, Has tyScript x) (h0 : 0 < z) (h1 : z + cntAll L ≤ 1099511627776) (hn : n ≤ 1099511627776) :
    Calls Tryz.prog 30 #[.slice A n c, .int .i64 z] w (GivesInt (z + cntAll L) w) := by
  have HT := Lib.hid ht
  have hc := h.count
  rw [mkAll_len] at hc
  have HC := Lib.hid hc
  have H := Lib.hid h
  have H1 := Lib.hid h1
  have hk : ∀ x ∈ mkAll L z, x.width = 2 := fun x hx => by
    obtain ⟨j, hj, rfl⟩ := List.getElem_of_mem hx
    have hjl : j < L.length := by rw [mkAll_len] at hj; exact hj
    have e := mkAll_at (z := z) (List.getElem?_eq_getElem hjl)
    rw [List.getElem?_eq_getElem hj] at e
    rw [Option.some.inj e, mkd_width]
    exact (ht _ (List.getElem_mem hjl)).width
  have HK := Lib.hid hk
  clear h ht h1 hc hk
  go_enter Tryz.func30, Tryz.ntmps30
  go_wp2
  go_loopw [1, 5] (fun zv iv wr => ∃ (i : Nat) (y : Int), i ≤ n ∧ iv = .int .i64 i ∧ zv = .int .i64 y ∧ y = z + cntAll (L.take i) ∧ Below w.heap.size w wr) (fun _ iv _ => n - (intOf iv).toNat)
  case atStart => exact ⟨0, z, Nat.zero_le _, rfl, rfl, by simp [cntAll], Below.refl _ _⟩
  case round =>
    obtain ⟨i, y, hin, rfl, rfl, hy, hb⟩ := hrel
    have HY := Lib.hid hy
    have HB := Lib.hid hb
    clear hy hb
    by_cases hlt : i < n
    · have hzi : L[i]? = some (L[i]'(by have := HC.out; omega)) := List.getElem?_eq_getElem (by have := HC.out; omega)
      generalize L[i]'(by have := HC.out; omega) = d at hzi
      obtain ⟨b, off, d', xs, rfl, hbw, hdi, hlie, hlen, hcell⟩ := (H.out.below HB.out).elem HK.out hlt
      obtain rfl : mkd d (z + cntAll (L.take i)) = d' := by rw [mkAll_at hzi] at hdi; exact Option.some.inj hdi
      rw [← HY.out] at hlie
      obtain ⟨f0, L1, rfl, ht1⟩ := recScript (HT.out d (List.mem_of_getElem? hzi))
      obtain ⟨A1, n1, c1, rfl, hl1⟩ := part2 (show Lies wr (.r [.s (mtext y.toNat), .l (mkAll L1 (y + 1))]) xs from hlie)
      have hcn : cntAll (L.take (i + 1)) = cntAll (L.take i) + (Dat.r [.s f0, .l L1]).cnt := cnt_next hzi
      have hce : (Dat.r [.s f0, .l L1]).cnt = 1 + cntAll L1 := by simp [Dat.cnt, cntAll]
      rw [hce] at hcn
      have hcl := cnt_take_le L (i + 1)
      have hy0 : 0 < y := by have := HY.out; omega
      have hy1 : y + 1 + cntAll L1 ≤ 1099511627776 := by have h1 := HY.out; have h2 := H1.out; omega
      have hn1 : n1 ≤ 1099511627776 := by have h1 := len_le_cnt (fun x hx => cntposMethod (ht1 x hx)); have h2 := hl1.count; rw [mkAll_len] at h2; omega
      have r0 : wr.cell? ⟨b, off + i * 2, none⟩ = some (.string (mtext y.toNat)) := hcell 0 _ rfl
      have r1 : wr.cell? ⟨b, off + i * 2 + 1, none⟩ = some (.slice A1 n1 c1) := hcell 1 _ rfl
      have K0 : Hid (wr.drew.cell? ⟨b, off + i * 2, none⟩ = some (.string (mtext y.toNat))) := Lib.hid r0
      have R1 := Lib.hid r1
      have HL1 := Lib.hid hl1
      have HT1 := Lib.hid ht1
      have HCN := Lib.hid hcn
      have hz8 : (0 : Int) ≤ y + 1 + cntAll L1 := by omega
      have hz9 : (decide (y + 1 + (cntAll L1 : Int) < 0)) = false := by simp; omega
      clear hcn hzi hdi hlie hlen hcell r0 r1 hl1 ht1 hce
      go_wp2_with fail
      go_region_held3 (fun w' => w'.cell? ⟨b, off + i * 2, none⟩ = some (.string (mtext y.toNat)))
        (first | exact K0.out | exact K1.out)
        ((go_at_call 59; refine (markTextZ _ _ (by omega) (by omega)).mono ?_; rintro e w2 ⟨rfl, hb2⟩; have K1 := Lib.hid (cell_low hb2 (by show b < wr.drew.heap.size; exact hbw) K0.out); have p1 := cell_low (show Below wr.heap.size wr w2 from (Below.refl _ _).drew.trans hb2) hbw R1.out; have HB3 := Lib.hid (show Below wr.heap.size wr w2 from (Below.refl _ _).drew.trans hb2); have HB2 := Lib.hid (HB.out.trans ((show Below wr.heap.size wr w2 from (Below.refl _ _).drew.trans hb2).mono HB.out.size)); clear hb2))
      all_goals (
        go_wp2_with fail
        refine (heldMethodS L1 A1 n1 c1 (y + 1) _ (HL1.out.below HB3.out) HT1.out (by omega) (by omega) hn1).mono ?_
        rintro e w3 ⟨rfl, hb3⟩
        have HB4 := Lib.hid (HB2.out.trans (hb3.mono HB2.out.size))
        clear hb3
        go_wp2_with fail
        go_roundw
        case rel =>
          refine ⟨i + 1, _, by omega, by go_num, rfl, ?_, HB4.out⟩
          have h1 := HY.out
          have h2 := HCN.out
          omega
        case measure => simp [intOf]; omega)
    · obtain rfl : i = n := by omega
      have HE : Hid (y = z + cntAll L) := Lib.hid (by rw [HY.out, List.take_of_length_le (by have := HC.out; omega)])
      go_wp2_with fail
      go_ret
      exact GivesInt.ret HE.out HB.out
end Go.Proofs.YthgcodbcafpmhaaGreatDoor
