/- The laws' marks: instructions. -/
import Derived.Test.YtaepconmjmcbdaaDatMark
import Derived.Test.YtaepconmjmcbdaaTyS
import Derived.Deep.RegionHeld3
namespace Go.Proofs.Ytaepconmjmcbdaa
open Go.RowKit
set_option linter.unusedVariables false
set_option linter.unusedSimpArgs false
/-- The slice's data are marked from z on; nothing else turned. -/
def MarkedD (L : List Dat) (A : Option Addr) (n c : Nat) (z : Int) (B : Nat → Prop) (w : World) (e : Ending) (w' : World) : Prop := e = .returned (.int .i64 (z + cntAll L)) ∧ Owns w' (.l (mkAll L z)) [.slice A n c] B ∧ Touch B w w'
theorem heap_set {w : World} {g o : Nat} {C : Array Value} {t : TypeId} {fz : Nat × Nat} (h : w.heap[g]? = some (.cells C t fz)) (v : Value) : (w.setCell ⟨g, o, none⟩ v).heap[g]? = some (.cells (C.setIfInBounds o v) t fz) := cell_set h v
set_option maxRecDepth 100000 in
set_option maxHeartbeats 4000000 in
theorem markInstrS (L : List Dat) (A : Option Addr) (n c : Nat) (z : Int) (B : Nat → Prop) (w : World) (h : Owns w (.l L) [.slice A n c] B) (ht : ∀ x ∈ L, Has tyInstr x) (h0 : 0 < z) (h1 : z + cntAll L ≤ 1099511627776) (hn : n ≤ 1099511627776) :
    Calls Try.prog 74 #[.slice A n c, .int .i64 z] w (MarkedD L A n c z B w) := by
  have HT := Lib.hid ht
  have HC := Lib.hid h.lies.count
  have H := Lib.hid h
  have H1 := Lib.hid h1
  clear h ht h1
  go_enter Try.func74, Try.ntmps74
  go_wp2
  go_loopw [1, 5] (fun zv iv wr => ∃ (i : Nat) (y : Int), i ≤ n ∧ iv = .int .i64 i ∧ zv = .int .i64 y ∧ y = z + cntAll (L.take i) ∧ Owns wr (.l (half L z i)) [.slice A n c] B ∧ Touch B w wr) (fun _ iv _ => n - (intOf iv).toNat)
  case atStart => exact ⟨0, z, Nat.zero_le _, rfl, rfl, by simp [cntAll], by rw [half_zero]; exact H.out, Touch.refl _ _⟩
  case round =>
    obtain ⟨i, y, hin, rfl, rfl, hy, hO, hT⟩ := hrel
    have HY := Lib.hid hy
    have HTo := Lib.hid hT
    clear hy hT
    by_cases hlt : i < n
    · have hzi : L[i]? = some (L[i]'(by have := HC.out; omega)) := List.getElem?_eq_getElem (by have := HC.out; omega)
      generalize L[i]'(by have := HC.out; omega) = d at hzi
      obtain ⟨g, E, cur, d', xs, Bi, Br, rfl, hBg, hh, hdi, hOd, hlen, hBi, hBr, hcell, hfr, hsz, hput⟩ := hO.focus (k := 6) (half_width (fun x hx => (HT.out x hx).width)) hlt
      obtain rfl : d = d' := by rw [half_at hzi] at hdi; exact Option.some.inj hdi
      obtain ⟨f0, f1, f2, f3, f4, f5, rfl, rfl, hf5⟩ := invInstr (HT.out d (List.mem_of_getElem? hzi)) hOd.lies
      have hcn : cntAll (L.take (i + 1)) = cntAll (L.take i) + 6 := cnt_next hzi
      have hcl := cnt_take_le L (i + 1)
      have hy0 : 0 < y := by have := HY.out; omega
      have hy1 : y + 6 ≤ 1099511627776 := by have h1 := HY.out; have h2 := H1.out; omega
      have r0 : wr.cell? ⟨g, i * 6, none⟩ = some (.int .i64 f0) := hcell 0 _ rfl
      have r1 : wr.cell? ⟨g, i * 6 + 1, none⟩ = some (.int .i64 f1) := hcell 1 _ rfl
      have r2 : wr.cell? ⟨g, i * 6 + 2, none⟩ = some (.int .i64 f2) := hcell 2 _ rfl
      have r3 : wr.cell? ⟨g, i * 6 + 3, none⟩ = some (.int .i64 f3) := hcell 3 _ rfl
      have r4 : wr.cell? ⟨g, i * 6 + 4, none⟩ = some (.int .i64 f4) := hcell 4 _ rfl
      have r5 : wr.cell? ⟨g, i * 6 + 5, none⟩ = some (.string f5) := hcell 5 _ rfl
      have q0 := hfr (i * 6)
      have q1 := hfr (i * 6 + 1)
      have q2 := hfr (i * 6 + 2)
      have q3 := hfr (i * 6 + 3)
      have q4 := hfr (i * 6 + 4)
      have q5 := hfr (i * 6 + 5)
      have hgl : g < wr.heap.size := (Array.getElem?_eq_some_iff.1 hh).1
      have HH := Lib.hid hh
      have HP := Lib.hid hput
      have HZ := Lib.hid hzi
      have HCN := Lib.hid hcn
      have HBR := Lib.hid hBr
      clear hh hput hcell hfr hzi hdi hOd hcn hBi hBr hO hlen
      go_wp2_with fail
      refine (markTextZ _ _ (by omega) (by omega)).mono ?_
      rintro e w1 ⟨rfl, hb⟩
      have hs1 := hb.size
      simp only [World.size_setCell] at hs1
      have v5 : w1.cell? ⟨g, i * 6 + 5, none⟩ = some (.string f5) := (hb.cell (p := ⟨g, i * 6 + 5, none⟩) (by simp only [World.size_setCell]; exact hgl)).trans (by simp [go_sem, r5])
      have u5 : w1.frozen? ⟨g, i * 6 + 5, none⟩ = false := (hb.frozen (p := ⟨g, i * 6 + 5, none⟩) (by simp only [World.size_setCell]; exact hgl)).trans (by simp [go_sem, q5])
      have hh1 := (hb.block g (by simp only [World.size_setCell]; exact hgl)).trans (heap_set (heap_set (heap_set (heap_set (heap_set HH.out _) _) _) _) _)
      have HH1 := Lib.hid hh1
      have HBB := Lib.hid hb
      clear hb hh1
      have T1 : Touch (fun b => b = g) wr w1 := ((((((Touch.refl (fun b => b = g) wr).setCell (p := ⟨g, i * 6, none⟩) rfl _).setCell (p := ⟨g, i * 6 + 1, none⟩) rfl _).setCell (p := ⟨g, i * 6 + 2, none⟩) rfl _).setCell (p := ⟨g, i * 6 + 3, none⟩) rfl _).setCell (p := ⟨g, i * 6 + 4, none⟩) rfl _).trans (Touch.of_below HBB.out)
      have HT1 := Lib.hid T1
      clear T1
      go_wp2_with fail
      go_roundw
      case rel =>
        have T2 := HT1.out.setCell (p := ⟨g, i * 6 + 5, none⟩) rfl (.string (mtext (y + 1 + 1 + 1 + 1 + 1).toNat))
        refine ⟨i + 1, _, by omega, by go_num, rfl, ?_, ?_, ?_⟩
        · have h1 := HY.out
          have h2 := HCN.out
          omega
        · rw [← half_set HZ.out, ← HY.out]
          refine (HP.out _ (mkd (.r [.i f0, .i f1, .i f2, .i f3, .i f4, .s f5]) y) [.int .i64 y, .int .i64 (y + 1), .int .i64 (y + 1 + 1), .int .i64 (y + 1 + 1 + 1), .int .i64 (y + 1 + 1 + 1 + 1), .string (mtext (y + 1 + 1 + 1 + 1 + 1).toNat)] (fun _ => False) _ rfl ?_ (fun b hb => hb.elim) (heap_set HH1.out _) ?_ (fun b hb hlt => T2.block b hlt (fun e => (HBR.out b hb).2 e))).mono (fun b hb => ?_)
          · exact ownInstr (f0 := y) (f1 := y + 1) (f2 := y + 1 + 1) (f3 := y + 1 + 1 + 1) (f4 := y + 1 + 1 + 1 + 1) (f5 := mtext (y + 1 + 1 + 1 + 1 + 1).toNat)
          · simp [setRange]
          · rcases hb with rfl | hb | hb
            · exact hBg
            · exact (HBR.out b hb).1
            · exact hb.elim
        · exact HTo.out.trans (T2.mono (fun b e => by rw [e]; exact hBg))
      case measure => simp [intOf]; omega
    · obtain rfl : i = n := by omega
      have HM : Hid (MarkedD L A i c z B w (.returned (.int .i64 y)) wr) := Lib.hid ⟨by rw [HY.out, List.take_of_length_le (by have := HC.out; omega)], by rw [half_all HC.out] at hO; exact hO, HTo.out⟩
      clear hO
      go_wp2_with fail
      go_ret
      exact HM.out
theorem cell_low {w w' : World} {B : Nat} (hb : Below B w w') {b o : Nat} {v : Value} (h : b < B) (hc : w.cell? ⟨b, o, none⟩ = some v) : w'.cell? ⟨b, o, none⟩ = some v := (hb.cell (p := ⟨b, o, none⟩) h).trans hc
set_option maxRecDepth 100000 in
set_option maxHeartbeats 4000000 in
theorem heldInstrS (L : List Dat) (A : Option Addr) (n c : Nat) (z : Int) (w : World) (h : Lies w (.l (mkAll L z)) [.slice A n c]) (ht : ∀ x ∈ L, Has tyInstr x) (h0 : 0 < z) (h1 : z + cntAll L ≤ 1099511627776) (hn : n ≤ 1099511627776) :
    Calls Try.prog 75 #[.slice A n c, .int .i64 z] w (GivesInt (z + cntAll L) w) := by
  have HT := Lib.hid ht
  have hc := h.count
  rw [mkAll_len] at hc
  have HC := Lib.hid hc
  have H := Lib.hid h
  have H1 := Lib.hid h1
  have hk : ∀ x ∈ mkAll L z, x.width = 6 := fun x hx => by
    obtain ⟨j, hj, rfl⟩ := List.getElem_of_mem hx
    have hjl : j < L.length := by rw [mkAll_len] at hj; exact hj
    have e := mkAll_at (z := z) (List.getElem?_eq_getElem hjl)
    rw [List.getElem?_eq_getElem hj] at e
    rw [Option.some.inj e, mkd_width]
    exact (ht _ (List.getElem_mem hjl)).width
  have HK := Lib.hid hk
  clear h ht h1 hc hk
  go_enter Try.func75, Try.ntmps75
  go_wp2
  go_loopw [1, 5] (fun zv iv wr => ∃ (i : Nat) (y : Int), i ≤ n ∧ iv = .int .i64 i ∧ zv = .int .i64 y ∧ y = z + cntAll (L.take i) ∧ Below w.heap.size w wr) (fun _ iv _ => n - (intOf iv).toNat)
  case atStart => exact ⟨0, z, Nat.zero_le _, rfl, rfl, by simp [cntAll], Below.refl _ _⟩
  case round =>
    obtain ⟨i, y, hin, rfl, rfl, hy, hb⟩ := hrel
    have HY := Lib.hid hy
    have HB := Lib.hid hb
    clear hy hb
    by_cases hlt : i < n
    · have hzi : L[i]? = some (L[i]'(by have := HC.out; omega)) := List.getElem?_eq_getElem (by have := HC.out; omega)
      generalize L[i]'(by have := HC.out; omega) = d at hzi
      obtain ⟨b, off, d', xs, rfl, hbw, hdi, hlie, hlen, hcell⟩ := (H.out.below HB.out).elem HK.out hlt
      obtain rfl : mkd d (z + cntAll (L.take i)) = d' := by rw [mkAll_at hzi] at hdi; exact Option.some.inj hdi
      rw [← HY.out] at hlie
      obtain ⟨ds, rfl, hds⟩ := HT.out d (List.mem_of_getElem? hzi)
      simp only [HasAll] at hds
      obtain ⟨d0, _, rfl, ⟨f0, rfl, -, -⟩, d1, _, rfl, ⟨f1, rfl, -, -⟩, d2, _, rfl, ⟨f2, rfl, -, -⟩, d3, _, rfl, ⟨f3, rfl, -, -⟩, d4, _, rfl, ⟨f4, rfl, -, -⟩, d5, _, rfl, ⟨f5, rfl, -⟩, rfl⟩ := hds
      have hl2 : Lies wr (.r [.i y, .i (y + 1), .i (y + 1 + 1), .i (y + 1 + 1 + 1), .i (y + 1 + 1 + 1 + 1), .s (mtext (y + 1 + 1 + 1 + 1 + 1).toNat)]) xs := hlie
      simp only [Lies, LiesAll] at hl2
      obtain ⟨e0, _, rfl, rfl, e1, _, rfl, rfl, e2, _, rfl, rfl, e3, _, rfl, rfl, e4, _, rfl, rfl, e5, _, rfl, rfl, rfl⟩ := hl2
      have hcn : cntAll (L.take (i + 1)) = cntAll (L.take i) + 6 := cnt_next hzi
      have hcl := cnt_take_le L (i + 1)
      have hy0 : 0 < y := by have := HY.out; omega
      have hy1 : y + 6 ≤ 1099511627776 := by have h1 := HY.out; have h2 := H1.out; omega
      have r0 : wr.cell? ⟨b, off + i * 6, none⟩ = some (.int .i64 y) := hcell 0 _ rfl
      have r1 : wr.cell? ⟨b, off + i * 6 + 1, none⟩ = some (.int .i64 (y + 1)) := hcell 1 _ rfl
      have r2 : wr.cell? ⟨b, off + i * 6 + 2, none⟩ = some (.int .i64 (y + 1 + 1)) := hcell 2 _ rfl
      have r3 : wr.cell? ⟨b, off + i * 6 + 3, none⟩ = some (.int .i64 (y + 1 + 1 + 1)) := hcell 3 _ rfl
      have r4 : wr.cell? ⟨b, off + i * 6 + 4, none⟩ = some (.int .i64 (y + 1 + 1 + 1 + 1)) := hcell 4 _ rfl
      have r5 : wr.cell? ⟨b, off + i * 6 + 5, none⟩ = some (.string (mtext (y + 1 + 1 + 1 + 1 + 1).toNat)) := hcell 5 _ rfl
      have K0 : Hid (wr.drew.cell? ⟨b, off + i * 6 + 5, none⟩ = some (.string (mtext (y + 1 + 1 + 1 + 1 + 1).toNat))) := Lib.hid r5
      have HCN := Lib.hid hcn
      clear hcn hzi hdi hlie hlen hcell
      go_wp2_with fail
      go_region_held3 (fun w' => w'.cell? ⟨b, off + i * 6 + 5, none⟩ = some (.string (mtext (y + 1 + 1 + 1 + 1 + 1).toNat)))
        (first | exact K0.out | exact K1.out)
        ((go_at_call 72; refine (markTextZ _ _ (by omega) (by omega)).mono ?_; rintro e w2 ⟨rfl, hb2⟩; have K1 := Lib.hid (cell_low hb2 (by show b < wr.drew.heap.size; exact hbw) K0.out); have HB2 := Lib.hid (HB.out.trans ((show Below wr.heap.size wr w2 from (Below.refl _ _).drew.trans hb2).mono HB.out.size)); clear hb2))
      all_goals (
        go_wp2_with fail
        go_roundw
        case rel =>
          refine ⟨i + 1, _, by omega, by go_num, rfl, ?_, HB2.out⟩
          have h1 := HY.out
          have h2 := HCN.out
          omega
        case measure => simp [intOf]; omega)
    · obtain rfl : i = n := by omega
      have HE : Hid (y = z + cntAll L) := Lib.hid (by rw [HY.out, List.take_of_length_le (by have := HC.out; omega)])
      go_wp2_with fail
      go_ret
      exact GivesInt.ret HE.out HB.out
end Go.Proofs.Ytaepconmjmcbdaa
