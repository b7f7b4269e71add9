/- Chapter 10's marks. -/
import Derived.Test.YtdedioghljkflaaLnkV
import Derived.LoopTactic
import Derived.Lib.Hide
import Derived.Deep.QuietTactic
import Derived.BigQuiet
import Derived.Deep.RegionWith
import Derived.Handy
namespace Go.Proofs.Ytdedioghljkflaa
open Go.RowKit
set_option linter.unusedVariables false
set_option linter.unusedSimpArgs false
/-- The slice's data are marked from z on; nothing else turned. -/
def MarkedD (L : List Dat) (A : Option Addr) (n c : Nat) (z : Int) (B : Nat → Prop) (w : World) (e : Ending) (w' : World) : Prop := e = .returned (.int .i64 (z + cntAll L)) ∧ Owns w' (.l (mkAll L z)) [.slice A n c] B ∧ Touch B w w'
theorem heap_set {w : World} {g o : Nat} {C : Array Value} {t : TypeId} {fz : Nat × Nat} (h : w.heap[g]? = some (.cells C t fz)) (v : Value) : (w.setCell ⟨g, o, none⟩ v).heap[g]? = some (.cells (C.setIfInBounds o v) t fz) := cell_set h v
set_option maxRecDepth 100000 in
set_option maxHeartbeats 4000000 in
theorem markExportS (L : List Dat) (A : Option Addr) (n c : Nat) (z : Int) (B : Nat → Prop) (w : World) (h : Owns w (.l L) [.slice A n c] B) (ht : ∀ x ∈ L, Has tyExport x) (h0 : 0 < z) (h1 : z + cntAll L ≤ 1099511627776) (hn : n ≤ 1099511627776) :
    Calls Try.prog 52 #[.slice A n c, .int .i64 z] w (MarkedD L A n c z B w) := by
  have HT := Lib.hid ht
  have HC := Lib.hid h.lies.count
  have H := Lib.hid h
  have H1 := Lib.hid h1
  clear h ht h1
  go_enter Try.func52, Try.ntmps52
  go_wp2
  go_loopw [1, 5] (fun zv iv wr => ∃ (i : Nat) (y : Int), i ≤ n ∧ iv = .int .i64 i ∧ zv = .int .i64 y ∧ y = z + cntAll (L.take i) ∧ Owns wr (.l (half L z i)) [.slice A n c] B ∧ Touch B w wr) (fun _ iv _ => n - (intOf iv).toNat)
  case atStart => exact ⟨0, z, Nat.zero_le _, rfl, rfl, by simp [cntAll], by rw [half_zero]; exact H.out, Touch.refl _ _⟩
  case round =>
    obtain ⟨i, y, hin, rfl, rfl, hy, hO, hT⟩ := hrel
    have HY := Lib.hid hy
    have HTo := Lib.hid hT
    clear hy hT
    by_cases hlt : i < n
    · have hzi : L[i]? = some (L[i]'(by have := HC.out; omega)) := List.getElem?_eq_getElem (by have := HC.out; omega)
      generalize L[i]'(by have := HC.out; omega) = d at hzi
      obtain ⟨g, E, cur, d', xs, Bi, Br, rfl, hBg, hh, hdi, hOd, hlen, hBi, hBr, hcell, hfr, hsz, hput⟩ := hO.focus (k := 3) (half_width (fun x hx => (HT.out x hx).width)) hlt
      obtain rfl : d = d' := by rw [half_at hzi] at hdi; exact Option.some.inj hdi
      obtain ⟨f0, f1, f2, rfl, rfl⟩ := invExport (HT.out d (List.mem_of_getElem? hzi)) hOd.lies
      have hcn : cntAll (L.take (i + 1)) = cntAll (L.take i) + 3 := cnt_next hzi
      have hcl := cnt_take_le L (i + 1)
      have hy0 : 0 < y := by have := HY.out; omega
      have hy1 : y + 3 ≤ 1099511627776 := by have h1 := HY.out; have h2 := H1.out; omega
      have r0 : wr.cell? ⟨g, i * 3, none⟩ = some (.int .i64 f0) := hcell 0 _ rfl
      have q0 := hfr (i * 3)
      have r1 : wr.cell? ⟨g, i * 3 + 1, none⟩ = some (.int .i64 f1) := hcell 1 _ rfl
      have q1 := hfr (i * 3 + 1)
      have r2 : wr.cell? ⟨g, i * 3 + 2, none⟩ = some (.int .i64 f2) := hcell 2 _ rfl
      have q2 := hfr (i * 3 + 2)
      have hgl : g < wr.heap.size := (Array.getElem?_eq_some_iff.1 hh).1
      have HH := Lib.hid hh
      have HP := Lib.hid hput
      have HZ := Lib.hid hzi
      have HCN := Lib.hid hcn
      have HBR := Lib.hid hBr
      clear hh hput hcell hfr hzi hdi hOd hcn hBi hBr hO hlen
      go_wp2_with fail
      go_roundw
      case rel =>
        have T2 : Touch (fun b => b = g) wr (((wr.setCell ⟨g, i * 3, none⟩ (.int .i64 (y))).setCell ⟨g, i * 3 + 1, none⟩ (.int .i64 (y + 1))).setCell ⟨g, i * 3 + 2, none⟩ (.int .i64 (y + 1 + 1))) := (((Touch.refl (fun b => b = g) wr).setCell (p := ⟨g, i * 3, none⟩) rfl _).setCell (p := ⟨g, i * 3 + 1, none⟩) rfl _).setCell (p := ⟨g, i * 3 + 2, none⟩) rfl _
        refine ⟨i + 1, _, by omega, by go_num, rfl, ?_, ?_, ?_⟩
        · have h1 := HY.out
          have h2 := HCN.out
          omega
        · rw [← half_set HZ.out, ← HY.out]
          refine (HP.out _ (mkd (.r [.i f0, .i f1, .i f2]) y) [.int .i64 (y), .int .i64 (y + 1), .int .i64 (y + 1 + 1)] (fun _ => False) _ rfl ?_ (fun b hb => hb.elim) (heap_set (heap_set (heap_set HH.out _) _) _) ?_ (fun b hb hlt => T2.block b hlt (fun e => (HBR.out b hb).2 e))).mono (fun b hb => ?_)
          · exact ownExport (f0 := y) (f1 := y + 1) (f2 := y + 1 + 1)
          · simp [setRange]
          · rcases hb with rfl | hb | hb
            · exact hBg
            · exact (HBR.out b hb).1
            · exact hb.elim
        · exact HTo.out.trans (T2.mono (fun b e => by rw [e]; exact hBg))
      case measure => simp [intOf]; omega
    · obtain rfl : i = n := by omega
      have HM : Hid (MarkedD L A i c z B w (.returned (.int .i64 y)) wr) := Lib.hid ⟨by rw [HY.out, List.take_of_length_le (by have := HC.out; omega)], by rw [half_all HC.out] at hO; exact hO, HTo.out⟩
      clear hO
      go_wp2_with fail
      go_ret
      exact HM.out
set_option maxRecDepth 100000 in
set_option maxHeartbeats 4000000 in
theorem heldExportS (L : List Dat) (A : Option Addr) (n c : Nat) (z : Int) (w : World) (h : Lies w (.l (mkAll L z)) [.slice A n c]) (ht : ∀ x ∈ L, Has tyExport x) (h0 : 0 < z) (h1 : z + cntAll L ≤ 1099511627776) (hn : n ≤ 1099511627776) :
    Calls Try.prog 53 #[.slice A n c, .int .i64 z] w (GivesInt (z + cntAll L) w) := by
  have HT := Lib.hid ht
  have hc := h.count
  rw [mkAll_len] at hc
  have HC := Lib.hid hc
  have H := Lib.hid h
  have H1 := Lib.hid h1
  have hk : ∀ x ∈ mkAll L z, x.width = 3 := fun x hx => by
    obtain ⟨j, hj, rfl⟩ := List.getElem_of_mem hx
    have hjl : j < L.length := by rw [mkAll_len] at hj; exact hj
    have e := mkAll_at (z := z) (List.getElem?_eq_getElem hjl)
    rw [List.getElem?_eq_getElem hj] at e
    rw [Option.some.inj e, mkd_width]
    exact (ht _ (List.getElem_mem hjl)).width
  have HK := Lib.hid hk
  clear h ht h1 hc hk
  go_enter Try.func53, Try.ntmps53
  go_wp2
  go_loopw [1, 5] (fun zv iv wr => ∃ (i : Nat) (y : Int), i ≤ n ∧ iv = .int .i64 i ∧ zv = .int .i64 y ∧ y = z + cntAll (L.take i) ∧ Below w.heap.size w wr) (fun _ iv _ => n - (intOf iv).toNat)
  case atStart => exact ⟨0, z, Nat.zero_le _, rfl, rfl, by simp [cntAll], Below.refl _ _⟩
  case round =>
    obtain ⟨i, y, hin, rfl, rfl, hy, hb⟩ := hrel
    have HY := Lib.hid hy
    have HB := Lib.hid hb
    clear hy hb
    by_cases hlt : i < n
    · have hzi : L[i]? = some (L[i]'(by have := HC.out; omega)) := List.getElem?_eq_getElem (by have := HC.out; omega)
      generalize L[i]'(by have := HC.out; omega) = d at hzi
      obtain ⟨b, off, d', xs, rfl, hbw, hdi, hlie, hlen, hcell⟩ := (H.out.below HB.out).elem HK.out hlt
      obtain rfl : mkd d (z + cntAll (L.take i)) = d' := by rw [mkAll_at hzi] at hdi; exact Option.some.inj hdi
      rw [← HY.out] at hlie
      obtain ⟨ds, rfl, hds⟩ := HT.out d (List.mem_of_getElem? hzi)
      simp only [HasAll] at hds
      obtain ⟨d0, _, rfl, ⟨f0, rfl, -, -⟩, d1, _, rfl, ⟨f1, rfl, -, -⟩, d2, _, rfl, ⟨f2, rfl, -, -⟩, rfl⟩ := hds
      have hl2 : Lies wr (.r [.i (y), .i (y + 1), .i (y + 1 + 1)]) xs := hlie
      simp only [Lies, LiesAll] at hl2
      obtain ⟨e0, _, rfl, rfl, e1, _, rfl, rfl, e2, _, rfl, rfl, rfl⟩ := hl2
      have hcn : cntAll (L.take (i + 1)) = cntAll (L.take i) + 3 := cnt_next hzi
      have hcl := cnt_take_le L (i + 1)
      have hy0 : 0 < y := by have := HY.out; omega
      have hy1 : y + 3 ≤ 1099511627776 := by have h1 := HY.out; have h2 := H1.out; omega
      have r0 : wr.cell? ⟨b, off + i * 3, none⟩ = some (.int .i64 (y)) := hcell 0 _ rfl
      have r1 : wr.cell? ⟨b, off + i * 3 + 1, none⟩ = some (.int .i64 (y + 1)) := hcell 1 _ rfl
      have r2 : wr.cell? ⟨b, off + i * 3 + 2, none⟩ = some (.int .i64 (y + 1 + 1)) := hcell 2 _ rfl
      have HCN := Lib.hid hcn
      clear hcn hzi hdi hlie hlen hcell
      go_wp2_with fail
      go_roundw
      case rel =>
        refine ⟨i + 1, _, by omega, by go_num, rfl, ?_, HB.out⟩
        have h1 := HY.out
        have h2 := HCN.out
        omega
      case measure => simp [intOf]; omega
    · obtain rfl : i = n := by omega
      have HE : Hid (y = z + cntAll L) := Lib.hid (by rw [HY.out, List.take_of_length_le (by have := HC.out; omega)])
      go_wp2_with fail
      go_ret
      exact GivesInt.ret HE.out HB.out
set_option maxRecDepth 100000 in
set_option maxHeartbeats 4000000 in
theorem markQuestionS (L : List Dat) (A : Option Addr) (n c : Nat) (z : Int) (B : Nat → Prop) (w : World) (h : Owns w (.l L) [.slice A n c] B) (ht : ∀ x ∈ L, Has tyQuestion x) (h0 : 0 < z) (h1 : z + cntAll L ≤ 1099511627776) (hn : n ≤ 1099511627776) :
    Calls Try.prog 40 #[.slice A n c, .int .i64 z] w (MarkedD L A n c z B w) := by
  have HT := Lib.hid ht
  have HC := Lib.hid h.lies.count
  have H := Lib.hid h
  have H1 := Lib.hid h1
  clear h ht h1
  go_enter Try.func40, Try.ntmps40
  go_wp2
  go_loopw [1, 5] (fun zv iv wr => ∃ (i : Nat) (y : Int), i ≤ n ∧ iv = .int .i64 i ∧ zv = .int .i64 y ∧ y = z + cntAll (L.take i) ∧ Owns wr (.l (half L z i)) [.slice A n c] B ∧ Touch B w wr) (fun _ iv _ => n - (intOf iv).toNat)
  case atStart => exact ⟨0, z, Nat.zero_le _, rfl, rfl, by simp [cntAll], by rw [half_zero]; exact H.out, Touch.refl _ _⟩
  case round =>
    obtain ⟨i, y, hin, rfl, rfl, hy, hO, hT⟩ := hrel
    have HY := Lib.hid hy
    have HTo := Lib.hid hT
    clear hy hT
    by_cases hlt : i < n
    · have hzi : L[i]? = some (L[i]'(by have := HC.out; omega)) := List.getElem?_eq_getElem (by have := HC.out; omega)
      generalize L[i]'(by have := HC.out; omega) = d at hzi
      obtain ⟨g, E, cur, d', xs, Bi, Br, rfl, hBg, hh, hdi, hOd, hlen, hBi, hBr, hcell, hfr, hsz, hput⟩ := hO.focus (k := 2) (half_width (fun x hx => (HT.out x hx).width)) hlt
      obtain rfl : d = d' := by rw [half_at hzi] at hdi; exact Option.some.inj hdi
      obtain ⟨f0, f1, rfl, rfl⟩ := invQuestion (HT.out d (List.mem_of_getElem? hzi)) hOd.lies
      have hcn : cntAll (L.take (i + 1)) = cntAll (L.take i) + 2 := cnt_next hzi
      have hcl := cnt_take_le L (i + 1)
      have hy0 : 0 < y := by have := HY.out; omega
      have hy1 : y + 2 ≤ 1099511627776 := by have h1 := HY.out; have h2 := H1.out; omega
      have r0 : wr.cell? ⟨g, i * 2, none⟩ = some (.int .i64 f0) := hcell 0 _ rfl
      have q0 := hfr (i * 2)
      have r1 : wr.cell? ⟨g, i * 2 + 1, none⟩ = some (.int .i64 f1) := hcell 1 _ rfl
      have q1 := hfr (i * 2 + 1)
      have hgl : g < wr.heap.size := (Array.getElem?_eq_some_iff.1 hh).1
      have HH := Lib.hid hh
      have HP := Lib.hid hput
      have HZ := Lib.hid hzi
      have HCN := Lib.hid hcn
      have HBR := Lib.hid hBr
      clear hh hput hcell hfr hzi hdi hOd hcn hBi hBr hO hlen
      go_wp2_with fail
      go_roundw
      case rel =>
        have T2 : Touch (fun b => b = g) wr ((wr.setCell ⟨g, i * 2, none⟩ (.int .i64 (y))).setCell ⟨g, i * 2 + 1, none⟩ (.int .i64 (y + 1))) := ((Touch.refl (fun b => b = g) wr).setCell (p := ⟨g, i * 2, none⟩) rfl _).setCell (p := ⟨g, i * 2 + 1, none⟩) rfl _
        refine ⟨i + 1, _, by omega, by go_num, rfl, ?_, ?_, ?_⟩
        · have h1 := HY.out
          have h2 := HCN.out
          omega
        · rw [← half_set HZ.out, ← HY.out]
          refine (HP.out _ (mkd (.r [.i f0, .i f1]) y) [.int .i64 (y), .int .i64 (y + 1)] (fun _ => False) _ rfl ?_ (fun b hb => hb.elim) (heap_set (heap_set HH.out _) _) ?_ (fun b hb hlt => T2.block b hlt (fun e => (HBR.out b hb).2 e))).mono (fun b hb => ?_)
          · exact ownQuestion (f0 := y) (f1 := y + 1)
          · simp [setRange]
          · rcases hb with rfl | hb | hb
            · exact hBg
            · exact (HBR.out b hb).1
            · exact hb.elim
        · exact HTo.out.trans (T2.mono (fun b e => by rw [e]; exact hBg))
      case measure => simp [intOf]; omega
    · obtain rfl : i = n := by omega
      have HM : Hid (MarkedD L A i c z B w (.returned (.int .i64 y)) wr) := Lib.hid ⟨by rw [HY.out, List.take_of_length_le (by have := HC.out; omega)], by rw [half_all HC.out] at hO; exact hO, HTo.out⟩
      clear hO
      go_wp2_with fail
      go_ret
      exact HM.out
set_option maxRecDepth 100000 in
set_option maxHeartbeats 4000000 in
theorem heldQuestionS (L : List Dat) (A : Option Addr) (n c : Nat) (z : Int) (w : World) (h : Lies w (.l (mkAll L z)) [.slice A n c]) (ht : ∀ x ∈ L, Has tyQuestion x) (h0 : 0 < z) (h1 : z + cntAll L ≤ 1099511627776) (hn : n ≤ 1099511627776) :
    Calls Try.prog 41 #[.slice A n c, .int .i64 z] w (GivesInt (z + cntAll L) w) := by
  have HT := Lib.hid ht
  have hc := h.count
  rw [mkAll_len] at hc
  have HC := Lib.hid hc
  have H := Lib.hid h
  have H1 := Lib.hid h1
  have hk : ∀ x ∈ mkAll L z, x.width = 2 := fun x hx => by
    obtain ⟨j, hj, rfl⟩ := List.getElem_of_mem hx
    have hjl : j < L.length := by rw [mkAll_len] at hj; exact hj
    have e := mkAll_at (z := z) (List.getElem?_eq_getElem hjl)
    rw [List.getElem?_eq_getElem hj] at e
    rw [Option.some.inj e, mkd_width]
    exact (ht _ (List.getElem_mem hjl)).width
  have HK := Lib.hid hk
  clear h ht h1 hc hk
  go_enter Try.func41, Try.ntmps41
  go_wp2
  go_loopw [1, 5] (fun zv iv wr => ∃ (i : Nat) (y : Int), i ≤ n ∧ iv = .int .i64 i ∧ zv = .int .i64 y ∧ y = z + cntAll (L.take i) ∧ Below w.heap.size w wr) (fun _ iv _ => n - (intOf iv).toNat)
  case atStart => exact ⟨0, z, Nat.zero_le _, rfl, rfl, by simp [cntAll], Below.refl _ _⟩
  case round =>
    obtain ⟨i, y, hin, rfl, rfl, hy, hb⟩ := hrel
    have HY := Lib.hid hy
    have HB := Lib.hid hb
    clear hy hb
    by_cases hlt : i < n
    · have hzi : L[i]? = some (L[i]'(by have := HC.out; omega)) := List.getElem?_eq_getElem (by have := HC.out; omega)
      generalize L[i]'(by have := HC.out; omega) = d at hzi
      obtain ⟨b, off, d', xs, rfl, hbw, hdi, hlie, hlen, hcell⟩ := (H.out.below HB.out).elem HK.out hlt
      obtain rfl : mkd d (z + cntAll (L.take i)) = d' := by rw [mkAll_at hzi] at hdi; exact Option.some.inj hdi
      rw [← HY.out] at hlie
      obtain ⟨ds, rfl, hds⟩ := HT.out d (List.mem_of_getElem? hzi)
      simp only [HasAll] at hds
      obtain ⟨d0, _, rfl, ⟨f0, rfl, -, -⟩, d1, _, rfl, ⟨f1, rfl, -, -⟩, rfl⟩ := hds
      have hl2 : Lies wr (.r [.i (y), .i (y + 1)]) xs := hlie
      simp only [Lies, LiesAll] at hl2
      obtain ⟨e0, _, rfl, rfl, e1, _, rfl, rfl, rfl⟩ := hl2
      have hcn : cntAll (L.take (i + 1)) = cntAll (L.take i) + 2 := cnt_next hzi
      have hcl := cnt_take_le L (i + 1)
      have hy0 : 0 < y := by have := HY.out; omega
      have hy1 : y + 2 ≤ 1099511627776 := by have h1 := HY.out; have h2 := H1.out; omega
      have r0 : wr.cell? ⟨b, off + i * 2, none⟩ = some (.int .i64 (y)) := hcell 0 _ rfl
      have r1 : wr.cell? ⟨b, off + i * 2 + 1, none⟩ = some (.int .i64 (y + 1)) := hcell 1 _ rfl
      have HCN := Lib.hid hcn
      clear hcn hzi hdi hlie hlen hcell
      go_wp2_with fail
      go_roundw
      case rel =>
        refine ⟨i + 1, _, by omega, by go_num, rfl, ?_, HB.out⟩
        have h1 := HY.out
        have h2 := HCN.out
        omega
      case measure => simp [intOf]; omega
    · obtain rfl : i = n := by omega
      have HE : Hid (y = z + cntAll L) := Lib.hid (by rw [HY.out, List.take_of_length_le (by have := HC.out; omega)])
      go_wp2_with fail
      go_ret
      exact GivesInt.ret HE.out HB.out
/-- A link's three lists are marked from z on; nothing else turned. -/
def MarkedL (lo hi : Nat) (L2 : List Dat) (A2 : Option Addr) (n2 c2 : Nat) (L4 : List Dat) (A4 : Option Addr) (n4 c4 : Nat) (L6 : List Dat) (A6 : Option Addr) (n6 c6 : Nat) (z : Int) (w : World) (e : Ending) (w' : World) : Prop :=
  e = .returned (.int .i64 (z + cntAll L2 + cntAll L4 + cntAll L6)) ∧ Own3 lo hi w' (mkAll L2 z) A2 n2 c2 (mkAll L4 (z + cntAll L2)) A4 n4 c4 (mkAll L6 (z + cntAll L2 + cntAll L4)) A6 n6 c6 ∧ Touch (rng lo hi) w w'
set_option maxHeartbeats 4000000 in
theorem markLink (f0 : Int) (f1 : Bool) (L2 : List Dat) (A2 : Option Addr) (n2 c2 : Nat) (f3 : Int) (L4 : List Dat) (A4 : Option Addr) (n4 c4 : Nat) (f5 : Int) (L6 : List Dat) (A6 : Option Addr) (n6 c6 : Nat) (z : Int) (lo hi : Nat) (w : World) (h : Own3 lo hi w L2 A2 n2 c2 L4 A4 n4 c4 L6 A6 n6 c6) (ht2 : ∀ x ∈ L2, Has tyExport x) (ht4 : ∀ x ∈ L4, Has tyQuestion x) (ht6 : ∀ x ∈ L6, Has tyQuestion x) (h0 : 0 < z) (h1 : z + cntAll L2 + cntAll L4 + cntAll L6 ≤ 1099511627776) (hn2 : n2 ≤ 1099511627776) (hn4 : n4 ≤ 1099511627776) (hn6 : n6 ≤ 1099511627776) (hhi : hi ≤ w.heap.size) :
    Calls Try.prog 27 #[.agg #[.int .i64 f0, .bool f1, .slice A2 n2 c2, .int .i64 f3, .slice A4 n4 c4, .int .i64 f5, .slice A6 n6 c6], .int .i64 z] w (MarkedL lo hi L2 A2 n2 c2 L4 A4 n4 c4 L6 A6 n6 c6 z w) := by
  have B0 : Hid (Below w.heap.size w (w.alloc (.cells #[.int .i64 f0, .bool f1, .slice A2 n2 c2, .int .i64 f3, .slice A4 n4 c4, .int .i64 f5, .slice A6 n6 c6] 27))) := Lib.hid ((Below.refl _ _).alloc (Nat.le_refl _) _)
  obtain ⟨S2, S4, S6, h2, h4, h6, r2, r4, r6⟩ := h
  have H2 := Lib.hid (h2.below B0.out)
  have H4 := Lib.hid (h4.below B0.out)
  have H6 := Lib.hid (h6.below B0.out)
  have HT2 := Lib.hid ht2
  have HT4 := Lib.hid ht4
  have HT6 := Lib.hid ht6
  have HTo : Hid (Touch (rng lo hi) w (w.alloc (.cells #[.int .i64 f0, .bool f1, .slice A2 n2 c2, .int .i64 f3, .slice A4 n4 c4, .int .i64 f5, .slice A6 n6 c6] 27))) := Lib.hid (Touch.of_below B0.out)
  have Y : Hid (Box w.heap.size [.int .i64 f0, .bool f1, .slice A2 n2 c2, .int .i64 f3, .slice A4 n4 c4, .int .i64 f5, .slice A6 n6 c6] (w.alloc (.cells #[.int .i64 f0, .bool f1, .slice A2 n2 c2, .int .i64 f3, .slice A4 n4 c4, .int .i64 f5, .slice A6 n6 c6] 27))) := Lib.hid (Box.new w #[.int .i64 f0, .bool f1, .slice A2 n2 c2, .int .i64 f3, .slice A4 n4 c4, .int .i64 f5, .slice A6 n6 c6] 27)
  clear h2 h4 h6 ht2 ht4 ht6 B0
  go_enter Try.func27, Try.ntmps27
  go_wp2_with fail
  refine (markExportS L2 A2 n2 c2 (z) S2 _ H2.out HT2.out (by omega) (by omega) hn2).mono ?_
  rintro e w1 ⟨rfl, hO, hT⟩
  replace H4 := Lib.hid (H4.out.touch hT (fun b hb' hb => ((r2 b hb).2.1) hb'))
  replace H6 := Lib.hid (H6.out.touch hT (fun b hb' hb => ((r2 b hb).2.2) hb'))
  replace H2 := Lib.hid hO
  replace Y : Hid (Box w.heap.size [.int .i64 f0, .bool f1, .slice A2 n2 c2, .int .i64 f3, .slice A4 n4 c4, .int .i64 f5, .slice A6 n6 c6] w1) := Lib.hid (Y.out.touch hT (fun hb => by have h1 := ((r2 _ hb).1).2; omega))
  replace HTo : Hid (Touch (rng lo hi) w w1) := Lib.hid (HTo.out.trans (hT.mono (fun b hb => (r2 b hb).1)))
  clear hO hT
  have y0 := Y.out.2 0 (.int .i64 f0) rfl
  have y1 := Y.out.2 1 (.bool f1) rfl
  have y2 := Y.out.2 2 (.slice A2 n2 c2) rfl
  have y3 := Y.out.2 3 (.int .i64 f3) rfl
  have y4 := Y.out.2 4 (.slice A4 n4 c4) rfl
  have y5 := Y.out.2 5 (.int .i64 f5) rfl
  have y6 := Y.out.2 6 (.slice A6 n6 c6) rfl
  go_wp2_with fail
  refine (markQuestionS L4 A4 n4 c4 (z + cntAll L2) S4 _ H4.out HT4.out (by omega) (by omega) hn4).mono ?_
  rintro e w2 ⟨rfl, hO, hT⟩
  clear y0 y1 y2 y3 y4 y5 y6
  replace H2 := Lib.hid (H2.out.touch hT (fun b hb => (r2 b hb).2.1))
  replace H6 := Lib.hid (H6.out.touch hT (fun b hb' hb => ((r4 b hb).2) hb'))
  replace H4 := Lib.hid hO
  replace Y : Hid (Box w.heap.size [.int .i64 f0, .bool f1, .slice A2 n2 c2, .int .i64 f3, .slice A4 n4 c4, .int .i64 f5, .slice A6 n6 c6] w2) := Lib.hid (Y.out.touch hT (fun hb => by have h1 := ((r4 _ hb).1).2; omega))
  replace HTo : Hid (Touch (rng lo hi) w w2) := Lib.hid (HTo.out.trans (hT.mono (fun b hb => (r4 b hb).1)))
  clear hO hT
  have y0 := Y.out.2 0 (.int .i64 f0) rfl
  have y1 := Y.out.2 1 (.bool f1) rfl
  have y2 := Y.out.2 2 (.slice A2 n2 c2) rfl
  have y3 := Y.out.2 3 (.int .i64 f3) rfl
  have y4 := Y.out.2 4 (.slice A4 n4 c4) rfl
  have y5 := Y.out.2 5 (.int .i64 f5) rfl
  have y6 := Y.out.2 6 (.slice A6 n6 c6) rfl
  go_wp2_with fail
  refine (markQuestionS L6 A6 n6 c6 (z + cntAll L2 + cntAll L4) S6 _ H6.out HT6.out (by omega) (by omega) hn6).mono ?_
  rintro e w3 ⟨rfl, hO, hT⟩
  clear y0 y1 y2 y3 y4 y5 y6
  replace H2 := Lib.hid (H2.out.touch hT (fun b hb => (r2 b hb).2.2))
  replace H4 := Lib.hid (H4.out.touch hT (fun b hb => (r4 b hb).2))
  replace H6 := Lib.hid hO
  replace Y : Hid (Box w.heap.size [.int .i64 f0, .bool f1, .slice A2 n2 c2, .int .i64 f3, .slice A4 n4 c4, .int .i64 f5, .slice A6 n6 c6] w3) := Lib.hid (Y.out.touch hT (fun hb => by have h1 := (r6 _ hb).2; omega))
  replace HTo : Hid (Touch (rng lo hi) w w3) := Lib.hid (HTo.out.trans (hT.mono (fun b hb => r6 b hb)))
  clear hO hT
  go_wp2_with fail
  go_ret
  exact ⟨rfl, ⟨S2, S4, S6, H2.out, H4.out, H6.out, r2, r4, r6⟩, HTo.out⟩
set_option maxHeartbeats 4000000 in
theorem heldLink (f0 : Int) (f1 : Bool) (L2 : List Dat) (A2 : Option Addr) (n2 c2 : Nat) (f3 : Int) (L4 : List Dat) (A4 : Option Addr) (n4 c4 : Nat) (f5 : Int) (L6 : List Dat) (A6 : Option Addr) (n6 c6 : Nat) (z : Int) (w : World) (h2 : Lies w (.l (mkAll L2 z)) [.slice A2 n2 c2]) (h4 : Lies w (.l (mkAll L4 (z + cntAll L2))) [.slice A4 n4 c4]) (h6 : Lies w (.l (mkAll L6 (z + cntAll L2 + cntAll L4))) [.slice A6 n6 c6]) (ht2 : ∀ x ∈ L2, Has tyExport x) (ht4 : ∀ x ∈ L4, Has tyQuestion x) (ht6 : ∀ x ∈ L6, Has tyQuestion x) (h0 : 0 < z) (h1 : z + cntAll L2 + cntAll L4 + cntAll L6 ≤ 1099511627776) (hn2 : n2 ≤ 1099511627776) (hn4 : n4 ≤ 1099511627776) (hn6 : n6 ≤ 1099511627776) :
    Calls Try.prog 28 #[.agg #[.int .i64 f0, .bool f1, .slice A2 n2 c2, .int .i64 f3, .slice A4 n4 c4, .int .i64 f5, .slice A6 n6 c6], .int .i64 z] w (GivesInt (z + cntAll L2 + cntAll L4 + cntAll L6) w) := by
  obtain ⟨z2, e2⟩ : ∃ z2, z + (cntAll L2 : Int) = z2 := ⟨_, rfl⟩
  rw [e2] at h4 h6 h1 ⊢
  obtain ⟨z4, e4⟩ : ∃ z4, z2 + (cntAll L4 : Int) = z4 := ⟨_, rfl⟩
  rw [e4] at h6 h1 ⊢
  obtain ⟨z6, e6⟩ : ∃ z6, z4 + (cntAll L6 : Int) = z6 := ⟨_, rfl⟩
  rw [e6] at h1 ⊢
  have p2 : 0 ≤ z2 := by omega
  have p4 : 0 ≤ z4 := by omega
  have p6 : 0 ≤ z6 := by omega
  have q2 : 0 < z2 := by omega
  have q4 : 0 < z4 := by omega
  have u2 : z + (cntAll L2 : Int) ≤ 1099511627776 := by omega
  have u4 : z2 + (cntAll L4 : Int) ≤ 1099511627776 := by omega
  have u6 : z4 + (cntAll L6 : Int) ≤ 1099511627776 := by omega
  have E2 := Lib.hid e2
  have E4 := Lib.hid e4
  have E6 := Lib.hid e6
  clear e2 e4 e6 h1
  have HB : Hid (Below w.heap.size w (w.alloc (.cells #[.int .i64 f0, .bool f1, .slice A2 n2 c2, .int .i64 f3, .slice A4 n4 c4, .int .i64 f5, .slice A6 n6 c6] 27))) := Lib.hid ((Below.refl _ _).alloc (Nat.le_refl _) _)
  have H2 := Lib.hid h2
  have H4 := Lib.hid h4
  have H6 := Lib.hid h6
  have HT2 := Lib.hid ht2
  have HT4 := Lib.hid ht4
  have HT6 := Lib.hid ht6
  have Y : Hid (Box w.heap.size [.int .i64 f0, .bool f1, .slice A2 n2 c2, .int .i64 f3, .slice A4 n4 c4, .int .i64 f5, .slice A6 n6 c6] (w.alloc (.cells #[.int .i64 f0, .bool f1, .slice A2 n2 c2, .int .i64 f3, .slice A4 n4 c4, .int .i64 f5, .slice A6 n6 c6] 27))) := Lib.hid (Box.new w #[.int .i64 f0, .bool f1, .slice A2 n2 c2, .int .i64 f3, .slice A4 n4 c4, .int .i64 f5, .slice A6 n6 c6] 27)
  clear h2 h4 h6 ht2 ht4 ht6
  go_enter Try.func28, Try.ntmps28
  go_wp2_with fail
  refine (heldExportS L2 A2 n2 c2 (z) _ (H2.out.below HB.out) HT2.out (by omega) (by omega) hn2).mono ?_
  rintro e w1 ⟨rfl, hb⟩
  rw [E2.out]
  replace Y : Hid (Box w.heap.size [.int .i64 f0, .bool f1, .slice A2 n2 c2, .int .i64 f3, .slice A4 n4 c4, .int .i64 f5, .slice A6 n6 c6] w1) := Lib.hid (Y.out.below hb)
  replace HB : Hid (Below w.heap.size w w1) := Lib.hid (HB.out.trans (hb.mono HB.out.size))
  clear hb
  have y0 := Y.out.2 0 (.int .i64 f0) rfl
  have y1 := Y.out.2 1 (.bool f1) rfl
  have y2 := Y.out.2 2 (.slice A2 n2 c2) rfl
  have y3 := Y.out.2 3 (.int .i64 f3) rfl
  have y4 := Y.out.2 4 (.slice A4 n4 c4) rfl
  have y5 := Y.out.2 5 (.int .i64 f5) rfl
  have y6 := Y.out.2 6 (.slice A6 n6 c6) rfl
  go_wp2_with fail
  refine (heldQuestionS L4 A4 n4 c4 (z2) _ (H4.out.below HB.out) HT4.out (by omega) (by omega) hn4).mono ?_
  rintro e w2 ⟨rfl, hb⟩
  clear y0 y1 y2 y3 y4 y5 y6
  rw [E4.out]
  replace Y : Hid (Box w.heap.size [.int .i64 f0, .bool f1, .slice A2 n2 c2, .int .i64 f3, .slice A4 n4 c4, .int .i64 f5, .slice A6 n6 c6] w2) := Lib.hid (Y.out.below hb)
  replace HB : Hid (Below w.heap.size w w2) := Lib.hid (HB.out.trans (hb.mono HB.out.size))
  clear hb
  have y0 := Y.out.2 0 (.int .i64 f0) rfl
  have y1 := Y.out.2 1 (.bool f1) rfl
  have y2 := Y.out.2 2 (.slice A2 n2 c2) rfl
  have y3 := Y.out.2 3 (.int .i64 f3) rfl
  have y4 := Y.out.2 4 (.slice A4 n4 c4) rfl
  have y5 := Y.out.2 5 (.int .i64 f5) rfl
  have y6 := Y.out.2 6 (.slice A6 n6 c6) rfl
  go_wp2_with fail
  refine (heldQuestionS L6 A6 n6 c6 (z4) _ (H6.out.below HB.out) HT6.out (by omega) (by omega) hn6).mono ?_
  rintro e w3 ⟨rfl, hb⟩
  clear y0 y1 y2 y3 y4 y5 y6
  rw [E6.out]
  replace Y : Hid (Box w.heap.size [.int .i64 f0, .bool f1, .slice A2 n2 c2, .int .i64 f3, .slice A4 n4 c4, .int .i64 f5, .slice A6 n6 c6] w3) := Lib.hid (Y.out.below hb)
  replace HB : Hid (Below w.heap.size w w3) := Lib.hid (HB.out.trans (hb.mono HB.out.size))
  clear hb
  go_wp2_with fail
  go_ret
  exact GivesInt.ret rfl HB.out
end Go.Proofs.Ytdedioghljkflaa
