/- The laws' marks: instructions.
   The laws' marks: methods, scripts. -/
import Derived.Test.YtgibhbplgiejpaaData
import Derived.Test.YtgibhbplgiejpaaTyA
import Derived.Deep.RegionHeld3
namespace Go.Proofs.Ytgibhbplgiejpaa
open Go.RowKit
set_option linter.unusedVariables false
set_option linter.unusedSimpArgs false
/-- The slice's data are marked from z on; nothing else turned. -/
def MarkedD (L : List Dat) (A : Option Addr) (n c : Nat) (z : Int) (B : Nat → Prop) (w : World) (e : Ending) (w' : World) : Prop := e = .returned (.int .i64 (z + cntAll L)) ∧ Owns w' (.l (mkAll L z)) [.slice A n c] B ∧ Touch B w w'
theorem heap_set {w : World} {g o : Nat} {C : Array Value} {t : TypeId} {fz : Nat × Nat} (h : w.heap[g]? = some (.cells C t fz)) (v : Value) : (w.setCell ⟨g, o, none⟩ v).heap[g]? = some (.cells (C.setIfInBounds o v) t fz) := cell_set h v
set_option maxRecDepth 100000 in
set_option maxHeartbeats 4000000 in
theorem markInstrS (L : List Dat) (A : Option Addr) (n c : Nat) (z : Int) (B : Nat → Prop) (w : World) (h : Owns w (.l L) [.slice A n c] B) (ht : ∀ x ∈ L, Has tyInstr x) (h0 : 0 < z) (h1 : z + cntAll L ≤ 1099511627776) (hn : n ≤ 1099511627776) :
    Calls Try.prog 67 #[.slice A n c, .int .i64 z] w (MarkedD L A n c z B w) := by
  have HT := Lib.hid ht
  have HC := Lib.hid h.lies.count
  have H := Lib.hid h
  have H1 := Lib.hid h1
  clear h ht h1
  go_enter Try.func67, Try.ntmps67
  go_wp2
  go_loopw [1, 5] (fun zv iv wr => ∃ (i : Nat) (y : Int), i ≤ n ∧ iv = .int .i64 i ∧ zv = .int .i64 y ∧ y = z + cntAll (L.take i) ∧ Owns wr (.l (half L z i)) [.slice A n c] B ∧ Touch B w wr) (fun _ iv _ => n - (intOf iv).toNat)
  case atStart => exact ⟨0, z, Nat.zero_le _, rfl, rfl, by simp [cntAll], by rw [half_zero]; exact H.out, Touch.refl _ _⟩
  case round =>
    obtain ⟨i, y, hin, rfl, rfl, hy, hO, hT⟩ := hrel
    have HY := Lib.hid hy
    have HTo := Lib.hid hT
    clear hy hT
    by_cases hlt : i < n
    · have hzi : L[i]? = some (L[i]'(by have := HC.out; omega)) := List.getElem?_eq_getElem (by have := HC.out; omega)
      generalize L[i]'(by have := HC.out; omega) = d at hzi
      obtain ⟨g, E, cur, d', xs, Bi, Br, rfl, hBg, hh, hdi, hOd, hlen, hBi, hBr, hcell, hfr, hsz, hput⟩ := hO.focus (k := 6) (half_width (fun x hx => (HT.out x hx).width)) hlt
      obtain rfl : d = d' := by rw [half_at hzi] at hdi; exact Option.some.inj hdi
      obtain ⟨f0, f1, f2, f3, f4, f5, rfl, rfl, hf5⟩ := invInstr (HT.out d (List.mem_of_getElem? hzi)) hOd.lies
      have hcn : cntAll (L.take (i + 1)) = cntAll (L.take i) + 6 := cnt_next hzi
      have hcl := cnt_take_le L (i + 1)
      have hy0 : 0 < y := by have := HY.out; omega
      have hy1 : y + 6 ≤ 1099511627776 := by have h1 := HY.out; have h2 := H1.out; omega
      have r0 : wr.cell? ⟨g, i * 6, none⟩ = some (.int .i64 f0) := hcell 0 _ rfl
      have r1 : wr.cell? ⟨g, i * 6 + 1, none⟩ = some (.int .i64 f1) := hcell 1 _ rfl
      have r2 : wr.cell? ⟨g, i * 6 + 2, none⟩ = some (.int .i64 f2) := hcell 2 _ rfl
      have r3 : wr.cell? ⟨g, i * 6 + 3, none⟩ = some (.int .i64 f3) := hcell 3 _ rfl
      have r4 : wr.cell? ⟨g, i * 6 + 4, none⟩ = some (.int .i64 f4) := hcell 4 _ rfl
      have r5 : wr.cell? ⟨g, i * 6 + 5, none⟩ = some (.string f5) := hcell 5 _ rfl
      have q0 := hfr (i * 6)
      have q1 := hfr (i * 6 + 1)
      have q2 := hfr (i * 6 + 2)
      have q3 := hfr (i * 6 + 3)
      have q4 := hfr (i * 6 + 4)
      have q5 := hfr (i * 6 + 5)
      have hgl : g < wr.heap.size := (Array.getElem?_eq_some_iff.1 hh).1
      have HH := Lib.hid hh
      have HP := Lib.hid hput
      have HZ := Lib.hid hzi
      have HCN := Lib.hid hcn
      have HBR := Lib.hid hBr
      clear hh hput hcell hfr hzi hdi hOd hcn hBi hBr hO hlen
      go_wp2_with fail
      refine (markTextZ _ _ (by omega) (by omega)).mono ?_
      rintro e w1 ⟨rfl, hb⟩
      have hs1 := hb.size
      simp only [World.size_setCell] at hs1
      have v5 : w1.cell? ⟨g, i * 6 + 5, none⟩ = some (.string f5) := (hb.cell (p := ⟨g, i * 6 + 5, none⟩) (by simp only [World.size_setCell]; exact hgl)).trans (by simp [go_sem, r5])
      have u5 : w1.frozen? ⟨g, i * 6 + 5, none⟩ = false := (hb.frozen (p := ⟨g, i * 6 + 5, none⟩) (by simp only [World.size_setCell]; exact hgl)).trans (by simp [go_sem, q5])
      have hh1 := (hb.block g (by simp only [World.size_setCell]; exact hgl)).trans (heap_set (heap_set (heap_set (heap_set (heap_set HH.out _) _) _) _) _)
      have HH1 := Lib.hid hh1
      have HBB := Lib.hid hb
      clear hb hh1
      have T1 : Touch (fun b => b = g) wr w1 := ((((((Touch.refl (fun b => b = g) wr).setCell (p := ⟨g, i * 6, none⟩) rfl _).setCell (p := ⟨g, i * 6 + 1, none⟩) rfl _).setCell (p := ⟨g, i * 6 + 2, none⟩) rfl _).setCell (p := ⟨g, i * 6 + 3, none⟩) rfl _).setCell (p := ⟨g, i * 6 + 4, none⟩) rfl _).trans (Touch.of_below HBB.out)
      have HT1 := Lib.hid T1
      clear T1
      go_wp2_with fail
      go_roundw
      case rel =>
        have T2 := HT1.out.setCell (p := ⟨g, i * 6 + 5, none⟩) rfl (.string (mtext (y + 1 + 1 + 1 + 1 + 1).toNat))
        refine ⟨i + 1, _, by omega, by go_num, rfl, ?_, ?_, ?_⟩
        · have h1 := HY.out
          have h2 := HCN.out
          omega
        · rw [← half_set HZ.out, ← HY.out]
          refine (HP.out _ (mkd (.r [.i f0, .i f1, .i f2, .i f3, .i f4, .s f5]) y) [.int .i64 y, .int .i64 (y + 1), .int .i64 (y + 1 + 1), .int .i64 (y + 1 + 1 + 1), .int .i64 (y + 1 + 1 + 1 + 1), .string (mtext (y + 1 + 1 + 1 + 1 + 1).toNat)] (fun _ => False) _ rfl ?_ (fun b hb => hb.elim) (heap_set HH1.out _) ?_ (fun b hb hlt => T2.block b hlt (fun e => (HBR.out b hb).2 e))).mono (fun b hb => ?_)
          · exact ownInstr (f0 := y) (f1 := y + 1) (f2 := y + 1 + 1) (f3 := y + 1 + 1 + 1) (f4 := y + 1 + 1 + 1 + 1) (f5 := mtext (y + 1 + 1 + 1 + 1 + 1).toNat)
          · simp [setRange]
          · rcases hb with rfl | hb | hb
            · exact hBg
            · exact (HBR.out b hb).1
            · exact hb.elim
        · exact HTo.out.trans (T2.mono (fun b e => by rw [e]; exact hBg))
      case measure => simp [intOf]; omega
    · obtain rfl : i = n := by omega
      have HM : Hid (MarkedD L A i c z B w (.returned (.int .i64 y)) wr) := Lib.hid ⟨by rw [HY.out, List.take_of_length_le (by have := HC.out; omega)], by rw [half_all HC.out] at hO; exact hO, HTo.out⟩
      clear hO
      go_wp2_with fail
      go_ret
      exact HM.out
theorem cell_low {w w' : World} {B : Nat} (hb : Below B w w') {b o : Nat} {v : Value} (h : b < B) (hc : w.cell? ⟨b, o, none⟩ = some v) : w'.cell? ⟨b, o, none⟩ = some v := (hb.cell (p := ⟨b, o, none⟩) h).trans hc
end Go.Proofs.Ytgibhbplgiejpaa
namespace Go.Proofs.Ytgibhbplgiejpaa
open Go.RowKit
set_option linter.unusedVariables false
set_option linter.unusedSimpArgs false
theorem list_set_same {α : Type} {l : List α} {j : Nat} {v : α} (h : l[j]? = some v) : l.set j v = l := by
  apply List.ext_getElem?
  intro k
  rw [List.getElem?_set]
  by_cases e : j = k
  · subst e
    rw [if_pos rfl, if_pos (List.getElem?_eq_some_iff.1 h).1, h]
  · rw [if_neg e]
theorem len_le_cnt : ∀ {L : List Dat}, (∀ x ∈ L, 1 ≤ x.cnt) → L.length ≤ cntAll L
  | [], _ => Nat.zero_le _
  | d :: L, h => by rw [List.length_cons, cntAll]; have h1 := h d (by simp); have h2 := len_le_cnt (fun x hx => h x (List.mem_cons_of_mem _ hx)); omega
theorem cntposInstr {d : Dat} (h : Has tyInstr d) : 1 ≤ d.cnt := by
  obtain ⟨ds, rfl, hds⟩ := h
  obtain ⟨d0, r0, rfl, h0, -⟩ := hds
  have : 1 ≤ d0.cnt := by obtain ⟨x, rfl, -⟩ := h0; exact Nat.le_refl 1
  show 1 ≤ cntAll (d0 :: r0)
  rw [cntAll]; omega
theorem partMethod {w : World} {B : Nat → Prop} {f0 : ByteArray} {L1 : List Dat} {A1 : Option Addr} {n1 c1 : Nat} (h : Owns w (.r [.s f0, .l L1]) [.string f0, .slice A1 n1 c1] B) : Owns w (.l L1) [.slice A1 n1 c1] B := by
  rw [Owns, OwnsAll] at h
  obtain ⟨a0, b0, P0, Q0, e0, m0, k0, -, h0, h1⟩ := h
  rw [Owns] at h0
  subst h0
  rw [OwnsAll] at h1
  obtain ⟨a1, b1, P1, Q1, e1, m1, k1, -, h1, h2⟩ := h1
  rw [OwnsAll] at h2
  subst h2
  rw [List.append_nil] at e1
  subst e1
  simp only [List.cons_append, List.nil_append, List.cons.injEq, true_and] at e0
  subst e0
  exact h1.mono (fun b hb => k0 b (m1 b hb))
set_option maxRecDepth 100000 in
set_option maxHeartbeats 4000000 in
theorem markMethodS (L : List Dat) (A : Option Addr) (n c : Nat) (z : Int) (B : Nat → Prop) (w : World) (h : Owns w (.l L) [.slice A n c] B) (ht : ∀ x ∈ L, Has tyMethod x) (h0 : 0 < z) (h1 : z + cntAll L ≤ 1099511627776) (hn : n ≤ 1099511627776) :
    Calls Try.prog 51 #[.slice A n c, .int .i64 z] w (MarkedD L A n c z B w) := by
  have HT := Lib.hid ht
  have HC := Lib.hid h.lies.count
  have H := Lib.hid h
  have H1 := Lib.hid h1
  clear h ht h1
  go_enter Try.func51, Try.ntmps51
  go_wp2
  go_loopw [1, 5] (fun zv iv wr => ∃ (i : Nat) (y : Int), i ≤ n ∧ iv = .int .i64 i ∧ zv = .int .i64 y ∧ y = z + cntAll (L.take i) ∧ Owns wr (.l (half L z i)) [.slice A n c] B ∧ Touch B w wr) (fun _ iv _ => n - (intOf iv).toNat)
  case atStart => exact ⟨0, z, Nat.zero_le _, rfl, rfl, by simp [cntAll], by rw [half_zero]; exact H.out, Touch.refl _ _⟩
  case round =>
    obtain ⟨i, y, hin, rfl, rfl, hy, hO, hT⟩ := hrel
    have HY := Lib.hid hy
    have HTo := Lib.hid hT
    clear hy hT
    by_cases hlt : i < n
    · have hzi : L[i]? = some (L[i]'(by have := HC.out; omega)) := List.getElem?_eq_getElem (by have := HC.out; omega)
      generalize L[i]'(by have := HC.out; omega) = d at hzi
      obtain ⟨g, E, cur, d', xs, Bi, Br, rfl, hBg, hh, hdi, hOd, hlen, hBi, hBr, hcell, hfr, hsz, hput⟩ := hO.focus (k := 2) (half_width (fun x hx => (HT.out x hx).width)) hlt
      obtain rfl : d = d' := by rw [half_at hzi] at hdi; exact Option.some.inj hdi
      obtain ⟨f0, L1, A1, n1, c1, rfl, rfl, hf0, hl1, ht1, hm1⟩ := invMethod (HT.out d (List.mem_of_getElem? hzi)) hOd.lies
      have hcn : cntAll (L.take (i + 1)) = cntAll (L.take i) + (Dat.r [.s f0, .l L1]).cnt := cnt_next hzi
      have hce : (Dat.r [.s f0, .l L1]).cnt = 1 + cntAll L1 := by simp [Dat.cnt, cntAll]
      rw [hce] at hcn
      have hcl := cnt_take_le L (i + 1)
      have hy0 : 0 < y := by have := HY.out; omega
      have hy1 : y + 1 + cntAll L1 ≤ 1099511627776 := by have h1 := HY.out; have h2 := H1.out; omega
      have hn1 : n1 ≤ 1099511627776 := by have h1 := len_le_cnt (fun x hx => cntposInstr (ht1 x hx)); have h2 := hl1.count; omega
      have r0 : wr.cell? ⟨g, i * 2, none⟩ = some (.string f0) := hcell 0 _ rfl
      have r1 : wr.cell? ⟨g, i * 2 + 1, none⟩ = some (.slice A1 n1 c1) := hcell 1 _ rfl
      have q0 := hfr (i * 2)
      have hgl : g < wr.heap.size := (Array.getElem?_eq_some_iff.1 hh).1
      have hset : setRange cur.toList (i * 2) [.string (mtext y.toNat), .slice A1 n1 c1] = cur.toList.set (i * 2) (.string (mtext y.toNat)) := by
        have e1 : cur[i * 2 + 1]? = some (.slice A1 n1 c1) := by rw [cell_of_row wr g (i * 2 + 1) cur _ (0, 0) hh] at r1; exact r1
        simp only [setRange]
        refine list_set_same ?_
        rw [List.getElem?_set_ne (by omega)]
        simpa using e1
      have HSET := Lib.hid hset
      have HH := Lib.hid hh
      have HP := Lib.hid hput
      have HZ := Lib.hid hzi
      have HCN := Lib.hid hcn
      have HBR := Lib.hid hBr
      have HBI := Lib.hid hBi
      have HOI := Lib.hid (partMethod hOd)
      have HT1 := Lib.hid ht1
      clear hh hput hcell hfr hzi hdi hOd hcn hBi hBr hO hlen hset ht1 hl1 hce
      go_wp2_with fail
      refine (markTextZ _ _ (by omega) (by omega)).mono ?_
      rintro e w1 ⟨rfl, hb⟩
      have hs1 := hb.size
      have v0 : w1.cell? ⟨g, i * 2, none⟩ = some (.string f0) := (hb.cell (p := ⟨g, i * 2, none⟩) hgl).trans r0
      have v1 : w1.cell? ⟨g, i * 2 + 1, none⟩ = some (.slice A1 n1 c1) := (hb.cell (p := ⟨g, i * 2 + 1, none⟩) hgl).trans r1
      have u0 : w1.frozen? ⟨g, i * 2, none⟩ = false := (hb.frozen (p := ⟨g, i * 2, none⟩) hgl).trans q0
      have hh1 : w1.heap[g]? = some (.cells cur _ (0, 0)) := (hb.block g hgl).trans HH.out
      have HH1 := Lib.hid hh1
      have HBB := Lib.hid hb
      have HO1 : Hid (∀ v, Owns (w1.setCell ⟨g, i * 2, none⟩ v) (.l L1) [.slice A1 n1 c1] Bi) := Lib.hid (fun v => (HOI.out.below hb).same (fun b hb2 _ => Below.heap_setCell _ _ _ _ (fun e => (HBI.out b hb2).2.1 (by rw [e]))))
      clear hb hh1 r0 r1 q0
      go_wp2_with fail
      refine (markInstrS L1 A1 n1 c1 _ Bi _ (HO1.out _) HT1.out (by omega) (by omega) hn1).mono ?_
      rintro e w2 ⟨rfl, hO2, hT2⟩
      have hs2 := hT2.size
      have HO2 := Lib.hid hO2
      have HT2 := Lib.hid hT2
      clear hO2 hT2 v0 v1 u0
      go_wp2_with fail
      go_roundw
      case rel =>
        have T1 : Touch B wr (w1.setCell ⟨g, i * 2, none⟩ (.string (mtext y.toNat))) := (Touch.of_below HBB.out).setCell (p := ⟨g, i * 2, none⟩) hBg _
        have T2 : Touch B wr w2 := T1.trans (HT2.out.mono (fun b hb => (HBI.out b hb).1))
        refine ⟨i + 1, _, by omega, by go_num, rfl, ?_, ?_, ?_⟩
        · have h1 := HY.out
          have h2 := HCN.out
          omega
        · rw [← half_set HZ.out, ← HY.out]
          refine (HP.out _ (mkd (.r [.s f0, .l L1]) y) [.string (mtext y.toNat), .slice A1 n1 c1] Bi (cur.setIfInBounds (i * 2) (.string (mtext y.toNat))) rfl ?_ (fun b hb => (HBI.out b hb).2) ((HT2.out.block g (by simp only [World.size_setCell]; omega) (fun hb => (HBI.out g hb).2.1 rfl)).trans (heap_set HH1.out _)) ?_ (fun b hb hlt => ?_)).mono (fun b hb => ?_)
          · exact ownMethod (f0 := mtext y.toNat) HO2.out
          · rw [HSET.out, Array.toList_setIfInBounds]
          · rw [HT2.out.block b (by simp only [World.size_setCell]; omega) (fun h => (HBI.out b h).2.2 hb), Below.heap_setCell _ _ _ _ (fun e => (HBR.out b hb).2 e)]
            exact HBB.out.block b hlt
          · rcases hb with rfl | hb | hb
            · exact hBg
            · exact (HBR.out b hb).1
            · exact (HBI.out b hb).1
        · exact HTo.out.trans T2
      case measure => simp [intOf]; omega
    · obtain rfl : i = n := by omega
      have HM : Hid (MarkedD L A i c z B w (.returned (.int .i64 y)) wr) := Lib.hid ⟨by rw [HY.out, List.take_of_length_le (by have := HC.out; omega)], by rw [half_all HC.out] at hO; exact hO, HTo.out⟩
      clear hO
      go_wp2_with fail
      go_ret
      exact HM.out
theorem cntposMethod {d : Dat} (h : Has tyMethod d) : 1 ≤ d.cnt := by
  obtain ⟨ds, rfl, hds⟩ := h
  obtain ⟨d0, r0, rfl, h0, -⟩ := hds
  have : 1 ≤ d0.cnt := by obtain ⟨x, rfl, -⟩ := h0; exact Nat.le_refl 1
  show 1 ≤ cntAll (d0 :: r0)
  rw [cntAll]; omega
theorem partScript {w : World} {B : Nat → Prop} {f0 : ByteArray} {L1 : List Dat} {A1 : Option Addr} {n1 c1 : Nat} (h : Owns w (.r [.s f0, .l L1]) [.string f0, .slice A1 n1 c1] B) : Owns w (.l L1) [.slice A1 n1 c1] B := by
  rw [Owns, OwnsAll] at h
  obtain ⟨a0, b0, P0, Q0, e0, m0, k0, -, h0, h1⟩ := h
  rw [Owns] at h0
  subst h0
  rw [OwnsAll] at h1
  obtain ⟨a1, b1, P1, Q1, e1, m1, k1, -, h1, h2⟩ := h1
  rw [OwnsAll] at h2
  subst h2
  rw [List.append_nil] at e1
  subst e1
  simp only [List.cons_append, List.nil_append, List.cons.injEq, true_and] at e0
  subst e0
  exact h1.mono (fun b hb => k0 b (m1 b hb))
end Go.Proofs.Ytgibhbplgiejpaa
