/- Chapter 10's marks. -/
import Derived.Test.YtmeacgpebpfpbaaCom
import Derived.Test.YtmeacgpebpfpbaaLnkV
import Derived.LoopTactic
import Derived.Lib.Hide
import Derived.Deep.QuietTactic
import Derived.BigQuiet
import Derived.Deep.RegionWith
import Derived.Handy
namespace Go.Proofs.Ytmeacgpebpfpbaa
open Go.RowKit
set_option linter.unusedVariables false
set_option linter.unusedSimpArgs false
set_option maxRecDepth 100000 in
set_option maxHeartbeats 4000000 in
theorem markExportS (L : List Dat) (A : Option Addr) (n c : Nat) (z : Int) (B : Nat → Prop) (w : World) (h : Owns w (.l L) [.slice A n c] B) (ht : ∀ x ∈ L, Has tyExport x) (h0 : 0 < z) (h1 : z + cntAll L ≤ 1099511627776) (hn : n ≤ 1099511627776) :
    Calls Try.prog 139 #[.slice A n c, .int .i64 z] w (MarkedD L A n c z B w) := by
  have HT := Lib.hid ht
  have HC := Lib.hid h.lies.count
  have H := Lib.hid h
  have H1 := Lib.hid h1
  clear h ht h1
  go_enter Try.func139, Try.ntmps139
  go_wp2
  go_loopw [1, 5] (fun zv iv wr => ∃ (i : Nat) (y : Int), i ≤ n ∧ iv = .int .i64 i ∧ zv = .int .i64 y ∧ y = z + cntAll (L.take i) ∧ Owns wr (.l (half L z i)) [.slice A n c] B ∧ Touch B w wr) (fun _ iv _ => n - (intOf iv).toNat)
  case atStart => exact ⟨0, z, Nat.zero_le _, rfl, rfl, by simp [cntAll], by rw [half_zero]; exact H.out, Touch.refl _ _⟩
  case round =>
    obtain ⟨i, y, hin, rfl, rfl, hy, hO, hT⟩ := hrel
    have HY := Lib.hid hy
    have HTo := Lib.hid hT
    clear hy hT
    by_cases hlt : i < n
    · have hzi : L[i]? = some (L[i]'(by have := HC.out; omega)) := List.getElem?_eq_getElem (by have := HC.out; omega)
      generalize L[i]'(by have := HC.out; omega) = d at hzi
      obtain ⟨g, E, cur, d', xs, Bi, Br, rfl, hBg, hh, hdi, hOd, hlen, hBi, hBr, hcell, hfr, hsz, hput⟩ := hO.focus (k := 3) (half_width (fun x hx => (HT.out x hx).width)) hlt
      obtain rfl : d = d' := by rw [half_at hzi] at hdi; exact Option.some.inj hdi
      obtain ⟨f0, f1, f2, rfl, rfl⟩ := invExport (HT.out d (List.mem_of_getElem? hzi)) hOd.lies
      have hcn : cntAll (L.take (i + 1)) = cntAll (L.take i) + 3 := cnt_next hzi
      have hcl := cnt_take_le L (i + 1)
      have hy0 : 0 < y := by have := HY.out; omega
      have hy1 : y + 3 ≤ 1099511627776 := by have h1 := HY.out; have h2 := H1.out; omega
      have r0 : wr.cell? ⟨g, i * 3, none⟩ = some (.int .i64 f0) := hcell 0 _ rfl
      have q0 := hfr (i * 3)
      have r1 : wr.cell? ⟨g, i * 3 + 1, none⟩ = some (.int .i64 f1) := hcell 1 _ rfl
      have q1 := hfr (i * 3 + 1)
      have r2 : wr.cell? ⟨g, i * 3 + 2, none⟩ = some (.int .i64 f2) := hcell 2 _ rfl
      have q2 := hfr (i * 3 + 2)
      have hgl : g < wr.heap.size := (Array.getElem?_eq_some_iff.1 hh).1
      have HH := Lib.hid hh
      have HP := Lib.hid hput
      have HZ := Lib.hid hzi
      have HCN := Lib.hid hcn
      have HBR := Lib.hid hBr
      clear hh hput hcell hfr hzi hdi hOd hcn hBi hBr hO hlen
      go_wp2_with fail
      go_roundw
      case rel =>
        have T2 : Touch (fun b => b = g) wr (((wr.setCell ⟨g, i * 3, none⟩ (.int .i64 (y))).setCell ⟨g, i * 3 + 1, none⟩ (.int .i64 (y + 1))).setCell ⟨g, i * 3 + 2, none⟩ (.int .i64 (y + 1 + 1))) := (((Touch.refl (fun b => b = g) wr).setCell (p := ⟨g, i * 3, none⟩) rfl _).setCell (p := ⟨g, i * 3 + 1, none⟩) rfl _).setCell (p := ⟨g, i * 3 + 2, none⟩) rfl _
        refine ⟨i + 1, _, by omega, by go_num, rfl, ?_, ?_, ?_⟩
        · have h1 := HY.out
          have h2 := HCN.out
          omega
        · rw [← half_set HZ.out, ← HY.out]
          refine (HP.out _ (mkd (.r [.i f0, .i f1, .i f2]) y) [.int .i64 (y), .int .i64 (y + 1), .int .i64 (y + 1 + 1)] (fun _ => False) _ rfl ?_ (fun b hb => hb.elim) (heap_set (heap_set (heap_set HH.out _) _) _) ?_ (fun b hb hlt => T2.block b hlt (fun e => (HBR.out b hb).2 e))).mono (fun b hb => ?_)
          · exact ownExport (f0 := y) (f1 := y + 1) (f2 := y + 1 + 1)
          · simp [setRange]
          · rcases hb with rfl | hb | hb
            · exact hBg
            · exact (HBR.out b hb).1
            · exact hb.elim
        · exact HTo.out.trans (T2.mono (fun b e => by rw [e]; exact hBg))
      case measure => simp [intOf]; omega
    · obtain rfl : i = n := by omega
      have HM : Hid (MarkedD L A i c z B w (.returned (.int .i64 y)) wr) := Lib.hid ⟨by rw [HY.out, List.take_of_length_le (by have := HC.out; omega)], by rw [half_all HC.out] at hO; exact hO, HTo.out⟩
      clear hO
      go_wp2_with fail
      go_ret
      exact HM.out
set_option maxRecDepth 100000 in
set_option maxHeartbeats 4000000 in
theorem heldExportS (L : List Dat) (A : Option Addr) (n c : Nat) (z : Int) (w : World) (h : Lies w (.l (mkAll L z)) [.slice A n c]) (ht : ∀ x ∈ L, Has tyExport x) (h0 : 0 < z) (h1 : z + cntAll L ≤ 1099511627776) (hn : n ≤ 1099511627776) :
    Calls Try.prog 144 #[.slice A n c, .int .i64 z] w (GivesInt (z + cntAll L) w) := by
  have HT := Lib.hid ht
  have hc := h.count
  rw [mkAll_len] at hc
  have HC := Lib.hid hc
  have H := Lib.hid h
  have H1 := Lib.hid h1
  have hk : ∀ x ∈ mkAll L z, x.width = 3 := fun x hx => by
    obtain ⟨j, hj, rfl⟩ := List.getElem_of_mem hx
    have hjl : j < L.length := by rw [mkAll_len] at hj; exact hj
    have e := mkAll_at (z := z) (List.getElem?_eq_getElem hjl)
    rw [List.getElem?_eq_getElem hj] at e
    rw [Option.some.inj e, mkd_width]
    exact (ht _ (List.getElem_mem hjl)).width
  have HK := Lib.hid hk
  clear h ht h1 hc hk
  go_enter Try.func144, Try.ntmps144
  go_wp2
  go_loopw [1, 5] (fun zv iv wr => ∃ (i : Nat) (y : Int), i ≤ n ∧ iv = .int .i64 i ∧ zv = .int .i64 y ∧ y = z + cntAll (L.take i) ∧ Below w.heap.size w wr) (fun _ iv _ => n - (intOf iv).toNat)
  case atStart => exact ⟨0, z, Nat.zero_le _, rfl, rfl, by simp [cntAll], Below.refl _ _⟩
  case round =>
    obtain ⟨i, y, hin, rfl, rfl, hy, hb⟩ := hrel
    have HY := Lib.hid hy
    have HB := Lib.hid hb
    clear hy hb
    by_cases hlt : i < n
    · have hzi : L[i]? = some (L[i]'(by have := HC.out; omega)) := List.getElem?_eq_getElem (by have := HC.out; omega)
      generalize L[i]'(by have := HC.out; omega) = d at hzi
      obtain ⟨b, off, d', xs, rfl, hbw, hdi, hlie, hlen, hcell⟩ := (H.out.below HB.out).elem HK.out hlt
      obtain rfl : mkd d (z + cntAll (L.take i)) = d' := by rw [mkAll_at hzi] at hdi; exact Option.some.inj hdi
      rw [← HY.out] at hlie
      obtain ⟨ds, rfl, hds⟩ := HT.out d (List.mem_of_getElem? hzi)
      simp only [HasAll] at hds
      obtain ⟨d0, _, rfl, ⟨f0, rfl, -, -⟩, d1, _, rfl, ⟨f1, rfl, -, -⟩, d2, _, rfl, ⟨f2, rfl, -, -⟩, rfl⟩ := hds
      have hl2 : Lies wr (.r [.i (y), .i (y + 1), .i (y + 1 + 1)]) xs := hlie
      simp only [Lies, LiesAll] at hl2
      obtain ⟨e0, _, rfl, rfl, e1, _, rfl, rfl, e2, _, rfl, rfl, rfl⟩ := hl2
      have hcn : cntAll (L.take (i + 1)) = cntAll (L.take i) + 3 := cnt_next hzi
      have hcl := cnt_take_le L (i + 1)
      have hy0 : 0 < y := by have := HY.out; omega
      have hy1 : y + 3 ≤ 1099511627776 := by have h1 := HY.out; have h2 := H1.out; omega
      have r0 : wr.cell? ⟨b, off + i * 3, none⟩ = some (.int .i64 (y)) := hcell 0 _ rfl
      have r1 : wr.cell? ⟨b, off + i * 3 + 1, none⟩ = some (.int .i64 (y + 1)) := hcell 1 _ rfl
      have r2 : wr.cell? ⟨b, off + i * 3 + 2, none⟩ = some (.int .i64 (y + 1 + 1)) := hcell 2 _ rfl
      have HCN := Lib.hid hcn
      clear hcn hzi hdi hlie hlen hcell
      go_wp2_with fail
      go_roundw
      case rel =>
        refine ⟨i + 1, _, by omega, by go_num, rfl, ?_, HB.out⟩
        have h1 := HY.out
        have h2 := HCN.out
        omega
      case measure => simp [intOf]; omega
    · obtain rfl : i = n := by omega
      have HE : Hid (y = z + cntAll L) := Lib.hid (by rw [HY.out, List.take_of_length_le (by have := HC.out; omega)])
      go_wp2_with fail
      go_ret
      exact GivesInt.ret HE.out HB.out
set_option maxRecDepth 100000 in
set_option maxHeartbeats 4000000 in
theorem markQuestionS (L : List Dat) (A : Option Addr) (n c : Nat) (z : Int) (B : Nat → Prop) (w : World) (h : Owns w (.l L) [.slice A n c] B) (ht : ∀ x ∈ L, Has tyQuestion x) (h0 : 0 < z) (h1 : z + cntAll L ≤ 1099511627776) (hn : n ≤ 1099511627776) :
    Calls Try.prog 140 #[.slice A n c, .int .i64 z] w (MarkedD L A n c z B w) := by
  have HT := Lib.hid ht
  have HC := Lib.hid h.lies.count
  have H := Lib.hid h
  have H1 := Lib.hid h1
  clear h ht h1
  go_enter Try.func140, Try.ntmps140
  go_wp2
  go_loopw [1, 5] (fun zv iv wr => ∃ (i : Nat) (y : Int), i ≤ n ∧ iv = .int .i64 i ∧ zv = .int .i64 y ∧ y = z + cntAll (L.take i) ∧ Owns wr (.l (half L z i)) [.slice A n c] B ∧ Touch B w wr) (fun _ iv _ => n - (intOf iv).toNat)
  case atStart => exact ⟨0, z, Nat.zero_le _, rfl, rfl, by simp [cntAll], by rw [half_zero]; exact H.out, Touch.refl _ _⟩
  case round =>
    obtain ⟨i, y, hin, rfl, rfl, hy, hO, hT⟩ := hrel
    have HY := Lib.hid hy
    have HTo := Lib.hid hT
    clear hy hT
    by_cases hlt : i < n
    · have hzi : L[i]? = some (L[i]'(by have := HC.out; omega)) := List.getElem?_eq_getElem (by have := HC.out; omega)
      generalize L[i]'(by have := HC.out; omega) = d at hzi
      obtain ⟨g, E, cur, d', xs, Bi, Br, rfl, hBg, hh, hdi, hOd, hlen, hBi, hBr, hcell, hfr, hsz, hput⟩ := hO.focus (k := 2) (half_width (fun x hx => (HT.out x hx).width)) hlt
      obtain rfl : d = d' := by rw [half_at hzi] at hdi; exact Option.some.inj hdi
      obtain ⟨f0, f1, rfl, rfl⟩ := invQuestion (HT.out d (List.mem_of_getElem? hzi)) hOd.lies
      have hcn : cntAll (L.take (i + 1)) = cntAll (L.take i) + 2 := cnt_next hzi
      have hcl := cnt_take_le L (i + 1)
      have hy0 : 0 < y := by have := HY.out; omega
      have hy1 : y + 2 ≤ 1099511627776 := by have h1 := HY.out; have h2 := H1.out; omega
      have r0 : wr.cell? ⟨g, i * 2, none⟩ = some (.int .i64 f0) := hcell 0 _ rfl
      have q0 := hfr (i * 2)
      have r1 : wr.cell? ⟨g, i * 2 + 1, none⟩ = some (.int .i64 f1) := hcell 1 _ rfl
      have q1 := hfr (i * 2 + 1)
      have hgl : g < wr.heap.size := (Array.getElem?_eq_some_iff.1 hh).1
      have HH := Lib.hid hh
      have HP := Lib.hid hput
      have HZ := Lib.hid hzi
      have HCN := Lib.hid hcn
      have HBR := Lib.hid hBr
      clear hh hput hcell hfr hzi hdi hOd hcn hBi hBr hO hlen
      go_wp2_with fail
      go_roundw
      case rel =>
        have T2 : Touch (fun b => b = g) wr ((wr.setCell ⟨g, i * 2, none⟩ (.int .i64 (y))).setCell ⟨g, i * 2 + 1, none⟩ (.int .i64 (y + 1))) := ((Touch.refl (fun b => b = g) wr).setCell (p := ⟨g, i * 2, none⟩) rfl _).setCell (p := ⟨g, i * 2 + 1, none⟩) rfl _
        refine ⟨i + 1, _, by omega, by go_num, rfl, ?_, ?_, ?_⟩
        · have h1 := HY.out
          have h2 := HCN.out
          omega
        · rw [← half_set HZ.out, ← HY.out]
          refine (HP.out _ (mkd (.r [.i f0, .i f1]) y) [.int .i64 (y), .int .i64 (y + 1)] (fun _ => False) _ rfl ?_ (fun b hb => hb.elim) (heap_set (heap_set HH.out _) _) ?_ (fun b hb hlt => T2.block b hlt (fun e => (HBR.out b hb).2 e))).mono (fun b hb => ?_)
          · exact ownQuestion (f0 := y) (f1 := y + 1)
          · simp [setRange]
          · rcases hb with rfl | hb | hb
            · exact hBg
            · exact (HBR.out b hb).1
            · exact hb.elim
        · exact HTo.out.trans (T2.mono (fun b e => by rw [e]; exact hBg))
      case measure => simp [intOf]; omega
    · obtain rfl : i = n := by omega
      have HM : Hid (MarkedD L A i c z B w (.returned (.int .i64 y)) wr) := Lib.hid ⟨by rw [HY.out, List.take_of_length_le (by have := HC.out; omega)], by rw [half_all HC.out] at hO; exact hO, HTo.out⟩
      clear hO
      go_wp2_with fail
      go_ret
      exact HM.out
set_option maxRecDepth 100000 in
set_option maxHeartbeats 4000000 in
theorem heldQuestionS (L : List Dat) (A : Option Addr) (n c : Nat) (z : Int) (w : World) (h : Lies w (.l (mkAll L z)) [.slice A n c]) (ht : ∀ x ∈ L, Has tyQuestion x) (h0 : 0 < z) (h1 : z + cntAll L ≤ 1099511627776) (hn : n ≤ 1099511627776) :
    Calls Try.prog 145 #[.slice A n c, .int .i64 z] w (GivesInt (z + cntAll L) w) := by
  have HT := Lib.hid ht
  have hc := h.count
  rw [mkAll_len] at hc
  have HC := Lib.hid hc
  have H := Lib.hid h
  have H1 := Lib.hid h1
  have hk : ∀ x ∈ mkAll L z, x.width = 2 := fun x hx => by
    obtain ⟨j, hj, rfl⟩ := List.getElem_of_mem hx
    have hjl : j < L.length := by rw [mkAll_len] at hj; exact hj
    have e := mkAll_at (z := z) (List.getElem?_eq_getElem hjl)
    rw [List.getElem?_eq_getElem hj] at e
    rw [Option.some.inj e, mkd_width]
    exact (ht _ (List.getElem_mem hjl)).width
  have HK := Lib.hid hk
  clear h ht h1 hc hk
  go_enter Try.func145, Try.ntmps145
  go_wp2
  go_loopw [1, 5] (fun zv iv wr => ∃ (i : Nat) (y : Int), i ≤ n ∧ iv = .int .i64 i ∧ zv = .int .i64 y ∧ y = z + cntAll (L.take i) ∧ Below w.heap.size w wr) (fun _ iv _ => n - (intOf iv).toNat)
  case atStart => exact ⟨0, z, Nat.zero_le _, rfl, rfl, by simp [cntAll], Below.refl _ _⟩
  case round =>
    obtain ⟨i, y, hin, rfl, rfl, hy, hb⟩ := hrel
    have HY := Lib.hid hy
    have HB := Lib.hid hb
    clear hy hb
    by_cases hlt : i < n
    · have hzi : L[i]? = some (L[i]'(by have := HC.out; omega)) := List.getElem?_eq_getElem (by have := HC.out; omega)
      generalize L[i]'(by have := HC.out; omega) = d at hzi
      obtain ⟨b, off, d', xs, rfl, hbw, hdi, hlie, hlen, hcell⟩ := (H.out.below HB.out).elem HK.out hlt
      obtain rfl : mkd d (z + cntAll (L.take i)) = d' := by rw [mkAll_at hzi] at hdi; exact Option.some.inj hdi
      rw [← HY.out] at hlie
      obtain ⟨ds, rfl, hds⟩ := HT.out d (List.mem_of_getElem? hzi)
      simp only [HasAll] at hds
      obtain ⟨d0, _, rfl, ⟨f0, rfl, -, -⟩, d1, _, rfl, ⟨f1, rfl, -, -⟩, rfl⟩ := hds
      have hl2 : Lies wr (.r [.i (y), .i (y + 1)]) xs := hlie
      simp only [Lies, LiesAll] at hl2
      obtain ⟨e0, _, rfl, rfl, e1, _, rfl, rfl, rfl⟩ := hl2
      have hcn : cntAll (L.take (i + 1)) = cntAll (L.take i) + 2 := cnt_next hzi
      have hcl := cnt_take_le L (i + 1)
      have hy0 : 0 < y := by have := HY.out; omega
      have hy1 : y + 2 ≤ 1099511627776 := by have h1 := HY.out; have h2 := H1.out; omega
      have r0 : wr.cell? ⟨b, off + i * 2, none⟩ = some (.int .i64 (y)) := hcell 0 _ rfl
      have r1 : wr.cell? ⟨b, off + i * 2 + 1, none⟩ = some (.int .i64 (y + 1)) := hcell 1 _ rfl
      have HCN := Lib.hid hcn
      clear hcn hzi hdi hlie hlen hcell
      go_wp2_with fail
      go_roundw
      case rel =>
        refine ⟨i + 1, _, by omega, by go_num, rfl, ?_, HB.out⟩
        have h1 := HY.out
        have h2 := HCN.out
        omega
      case measure => simp [intOf]; omega
    · obtain rfl : i = n := by omega
      have HE : Hid (y = z + cntAll L) := Lib.hid (by rw [HY.out, List.take_of_length_le (by have := HC.out; omega)])
      go_wp2_with fail
      go_ret
      exact GivesInt.ret HE.out HB.out
def MarkedL (lo hi : Nat) (L2 : List Dat) (A2 : Option Addr) (n2 c2 : Nat) (L4 : List Dat) (A4 : Option Addr) (n4 c4 : Nat) (L6 : List Dat) (A6 : Option Addr) (n6 c6 : Nat) (z : Int) (w : World) (e : Ending) (w' : World) : Prop :=
  e = .returned (.int .i64 (z + cntAll L2 + cntAll L4 + cntAll L6)) ∧ Own3 lo hi w' (mkAll L2 z) A2 n2 c2 (mkAll L4 (z + cntAll L2)) A4 n4 c4 (mkAll L6 (z + cntAll L2 + cntAll L4)) A6 n6 c6 ∧ Touch (rng lo hi) w w'
end Go.Proofs.Ytmeacgpebpfpbaa
