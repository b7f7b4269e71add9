/- Chapter 9's marks. -/
import Derived.Test.YtfgijebgnkikpaaTyE1
import Derived.LoopTactic
import Derived.Lib.Hide
import Derived.Deep.QuietTactic
import Derived.BigQuiet
import Derived.Deep.RegionWith
import Derived.Handy
namespace Go.Proofs.Ytfgijebgnkikpaa
open Go.RowKit
set_option linter.unusedVariables false
set_option linter.unusedSimpArgs false
/-- The slice's data are marked from z on; nothing else turned. -/
def MarkedD (L : List Dat) (A : Option Addr) (n c : Nat) (z : Int) (B : Nat → Prop) (w : World) (e : Ending) (w' : World) : Prop := e = .returned (.int .i64 (z + cntAll L)) ∧ Owns w' (.l (mkAll L z)) [.slice A n c] B ∧ Touch B w w'
theorem heap_set {w : World} {g o : Nat} {C : Array Value} {t : TypeId} {fz : Nat × Nat} (h : w.heap[g]? = some (.cells C t fz)) (v : Value) : (w.setCell ⟨g, o, none⟩ v).heap[g]? = some (.cells (C.setIfInBounds o v) t fz) := cell_set h v
set_option maxRecDepth 100000 in
set_option maxHeartbeats 4000000 in
theorem markValueS (L : List Dat) (A : Option Addr) (n c : Nat) (z : Int) (B : Nat → Prop) (w : World) (h : Owns w (.l L) [.slice A n c] B) (ht : ∀ x ∈ L, Has tyValue x) (h0 : 0 < z) (h1 : z + cntAll L ≤ 1099511627776) (hn : n ≤ 1099511627776) :
    Calls Try.prog 30 #[.slice A n c, .int .i64 z] w (MarkedD L A n c z B w) := by
  have HT := Lib.hid ht
  have HC := Lib.hid h.lies.count
  have H := Lib.hid h
  have H1 := Lib.hid h1
  clear h ht h1
  go_enter Try.func30, Try.ntmps30
  go_wp2
  go_loopw [1, 5] (fun zv iv wr => ∃ (i : Nat) (y : Int), i ≤ n ∧ iv = .int .i64 i ∧ zv = .int .i64 y ∧ y = z + cntAll (L.take i) ∧ Owns wr (.l (half L z i)) [.slice A n c] B ∧ Touch B w wr) (fun _ iv _ => n - (intOf iv).toNat)
  case atStart => exact ⟨0, z, Nat.zero_le _, rfl, rfl, by simp [cntAll], by rw [half_zero]; exact H.out, Touch.refl _ _⟩
  case round =>
    obtain ⟨i, y, hin, rfl, rfl, hy, hO, hT⟩ := hrel
    have HY := Lib.hid hy
    have HTo := Lib.hid hT
    clear hy hT
    by_cases hlt : i < n
    · have hzi : L[i]? = some (L[i]'(by have := HC.out; omega)) := List.getElem?_eq_getElem (by have := HC.out; omega)
      generalize L[i]'(by have := HC.out; omega) = d at hzi
      obtain ⟨g, E, cur, d', xs, Bi, Br, rfl, hBg, hh, hdi, hOd, hlen, hBi, hBr, hcell, hfr, hsz, hput⟩ := hO.focus (k := 2) (half_width (fun x hx => (HT.out x hx).width)) hlt
      obtain rfl : d = d' := by rw [half_at hzi] at hdi; exact Option.some.inj hdi
      obtain ⟨f0, f1, rfl, rfl⟩ := invValue (HT.out d (List.mem_of_getElem? hzi)) hOd.lies
      have hcn : cntAll (L.take (i + 1)) = cntAll (L.take i) + 2 := cnt_next hzi
      have hcl := cnt_take_le L (i + 1)
      have hy0 : 0 < y := by have := HY.out; omega
      have hy1 : y + 2 ≤ 1099511627776 := by have h1 := HY.out; have h2 := H1.out; omega
      have r0 : wr.cell? ⟨g, i * 2, none⟩ = some (.int .i64 f0) := hcell 0 _ rfl
      have q0 := hfr (i * 2)
      have r1 : wr.cell? ⟨g, i * 2 + 1, none⟩ = some (.int .i64 f1) := hcell 1 _ rfl
      have q1 := hfr (i * 2 + 1)
      have hgl : g < wr.heap.size := (Array.getElem?_eq_some_iff.1 hh).1
      have HH := Lib.hid hh
      have HP := Lib.hid hput
      have HZ := Lib.hid hzi
      have HCN := Lib.hid hcn
      have HBR := Lib.hid hBr
      clear hh hput hcell hfr hzi hdi hOd hcn hBi hBr hO hlen
      go_wp2_with fail
      go_roundw
      case rel =>
        have T2 : Touch (fun b => b = g) wr ((wr.setCell ⟨g, i * 2, none⟩ (.int .i64 (y))).setCell ⟨g, i * 2 + 1, none⟩ (.int .i64 (y + 1))) := ((Touch.refl (fun b => b = g) wr).setCell (p := ⟨g, i * 2, none⟩) rfl _).setCell (p := ⟨g, i * 2 + 1, none⟩) rfl _
        refine ⟨i + 1, _, by omega, by go_num, rfl, ?_, ?_, ?_⟩
        · have h1 := HY.out
          have h2 := HCN.out
          omega
        · rw [← half_set HZ.out, ← HY.out]
          refine (HP.out _ (mkd (.r [.i f0, .i f1]) y) [.int .i64 (y), .int .i64 (y + 1)] (fun _ => False) _ rfl ?_ (fun b hb => hb.elim) (heap_set (heap_set HH.out _) _) ?_ (fun b hb hlt => T2.block b hlt (fun e => (HBR.out b hb).2 e))).mono (fun b hb => ?_)
          · exact ownValue (f0 := y) (f1 := y + 1)
          · simp [setRange]
          · rcases hb with rfl | hb | hb
            · exact hBg
            · exact (HBR.out b hb).1
            · exact hb.elim
        · exact HTo.out.trans (T2.mono (fun b e => by rw [e]; exact hBg))
      case measure => simp [intOf]; omega
    · obtain rfl : i = n := by omega
      have HM : Hid (MarkedD L A i c z B w (.returned (.int .i64 y)) wr) := Lib.hid ⟨by rw [HY.out, List.take_of_length_le (by have := HC.out; omega)], by rw [half_all HC.out] at hO; exact hO, HTo.out⟩
      clear hO
      go_wp2_with fail
      go_ret
      exact HM.out
set_option maxRecDepth 100000 in
set_option maxHeartbeats 4000000 in
theorem heldValueS (L : List Dat) (A : Option Addr) (n c : Nat) (z : Int) (w : World) (h : Lies w (.l (mkAll L z)) [.slice A n c]) (ht : ∀ x ∈ L, Has tyValue x) (h0 : 0 < z) (h1 : z + cntAll L ≤ 1099511627776) (hn : n ≤ 1099511627776) :
    Calls Try.prog 67 #[.slice A n c, .int .i64 z] w (GivesInt (z + cntAll L) w) := by
  have HT := Lib.hid ht
  have hc := h.count
  rw [mkAll_len] at hc
  have HC := Lib.hid hc
  have H := Lib.hid h
  have H1 := Lib.hid h1
  have hk : ∀ x ∈ mkAll L z, x.width = 2 := fun x hx => by
    obtain ⟨j, hj, rfl⟩ := List.getElem_of_mem hx
    have hjl : j < L.length := by rw [mkAll_len] at hj; exact hj
    have e := mkAll_at (z := z) (List.getElem?_eq_getElem hjl)
    rw [List.getElem?_eq_getElem hj] at e
    rw [Option.some.inj e, mkd_width]
    exact (ht _ (List.getElem_mem hjl)).width
  have HK := Lib.hid hk
  clear h ht h1 hc hk
  go_enter Try.func67, Try.ntmps67
  go_wp2
  go_loopw [1, 5] (fun zv iv wr => ∃ (i : Nat) (y : Int), i ≤ n ∧ iv = .int .i64 i ∧ zv = .int .i64 y ∧ y = z + cntAll (L.take i) ∧ Below w.heap.size w wr) (fun _ iv _ => n - (intOf iv).toNat)
  case atStart => exact ⟨0, z, Nat.zero_le _, rfl, rfl, by simp [cntAll], Below.refl _ _⟩
  case round =>
    obtain ⟨i, y, hin, rfl, rfl, hy, hb⟩ := hrel
    have HY := Lib.hid hy
    have HB := Lib.hid hb
    clear hy hb
    by_cases hlt : i < n
    · have hzi : L[i]? = some (L[i]'(by have := HC.out; omega)) := List.getElem?_eq_getElem (by have := HC.out; omega)
      generalize L[i]'(by have := HC.out; omega) = d at hzi
      obtain ⟨b, off, d', xs, rfl, hbw, hdi, hlie, hlen, hcell⟩ := (H.out.below HB.out).elem HK.out hlt
      obtain rfl : mkd d (z + cntAll (L.take i)) = d' := by rw [mkAll_at hzi] at hdi; exact Option.some.inj hdi
      rw [← HY.out] at hlie
      obtain ⟨ds, rfl, hds⟩ := HT.out d (List.mem_of_getElem? hzi)
      simp only [HasAll] at hds
      obtain ⟨d0, _, rfl, ⟨f0, rfl, -, -⟩, d1, _, rfl, ⟨f1, rfl, -, -⟩, rfl⟩ := hds
      have hl2 : Lies wr (.r [.i (y), .i (y + 1)]) xs := hlie
      simp only [Lies, LiesAll] at hl2
      obtain ⟨e0, _, rfl, rfl, e1, _, rfl, rfl, rfl⟩ := hl2
      have hcn : cntAll (L.take (i + 1)) = cntAll (L.take i) + 2 := cnt_next hzi
      have hcl := cnt_take_le L (i + 1)
      have hy0 : 0 < y := by have := HY.out; omega
      have hy1 : y + 2 ≤ 1099511627776 := by have h1 := HY.out; have h2 := H1.out; omega
      have r0 : wr.cell? ⟨b, off + i * 2, none⟩ = some (.int .i64 (y)) := hcell 0 _ rfl
      have r1 : wr.cell? ⟨b, off + i * 2 + 1, none⟩ = some (.int .i64 (y + 1)) := hcell 1 _ rfl
      have HCN := Lib.hid hcn
      clear hcn hzi hdi hlie hlen hcell
      go_wp2_with fail
      go_roundw
      case rel =>
        refine ⟨i + 1, _, by omega, by go_num, rfl, ?_, HB.out⟩
        have h1 := HY.out
        have h2 := HCN.out
        omega
      case measure => simp [intOf]; omega
    · obtain rfl : i = n := by omega
      have HE : Hid (y = z + cntAll L) := Lib.hid (by rw [HY.out, List.take_of_length_le (by have := HC.out; omega)])
      go_wp2_with fail
      go_ret
      exact GivesInt.ret HE.out HB.out
theorem markSentS0 (A : Option Addr) (c : Nat) (z : Int) (w : World) : Calls Try.prog 65 #[.slice A 0 c, .int .i64 z] w (fun e w' => e = .returned (.int .i64 z) ∧ w' = w) := by
  go_enter Try.func65, Try.ntmps65
  go_wp2
  refine wp_loop_rounds 1 ?_
  rw [rounds_succ]
  go_wp2
  go_ret
  exact ⟨rfl, rfl⟩
theorem markAskerS0 (A : Option Addr) (c : Nat) (z : Int) (w : World) : Calls Try.prog 66 #[.slice A 0 c, .int .i64 z] w (fun e w' => e = .returned (.int .i64 z) ∧ w' = w) := by
  go_enter Try.func66, Try.ntmps66
  go_wp2
  refine wp_loop_rounds 1 ?_
  rw [rounds_succ]
  go_wp2
  go_ret
  exact ⟨rfl, rfl⟩
theorem heldSentS0 (A : Option Addr) (c : Nat) (z : Int) (w : World) : Calls Try.prog 68 #[.slice A 0 c, .int .i64 z] w (fun e w' => e = .returned (.int .i64 z) ∧ w' = w) := by
  go_enter Try.func68, Try.ntmps68
  go_wp2
  refine wp_loop_rounds 1 ?_
  rw [rounds_succ]
  go_wp2
  go_ret
  exact ⟨rfl, rfl⟩
theorem heldAskerS0 (A : Option Addr) (c : Nat) (z : Int) (w : World) : Calls Try.prog 69 #[.slice A 0 c, .int .i64 z] w (fun e w' => e = .returned (.int .i64 z) ∧ w' = w) := by
  go_enter Try.func69, Try.ntmps69
  go_wp2
  refine wp_loop_rounds 1 ?_
  rw [rounds_succ]
  go_wp2
  go_ret
  exact ⟨rfl, rfl⟩
set_option maxHeartbeats 4000000 in
theorem markEnt0 (f0 f1 f3 f4_0 f4_1 f7 f8 f9 f10 : Int) (L : List Dat) (A B C : Option Addr) (n c b d : Nat) (z : Int) (Bl : Nat → Prop) (w : World) (h : Owns w (.l L) [.slice A n c] Bl) (ht : ∀ x ∈ L, Has tyValue x) (h0 : 0 < z) (h1 : z + cntAll L ≤ 1099511627776) (hn : n ≤ 1099511627776) (hB : ∀ x, Bl x → x < w.heap.size) :
    Calls Try.prog 31 #[.agg #[.int .i64 f0, .int .i64 f1, .slice A n c, .int .i64 f3, .int .i64 f4_0, .int .i64 f4_1, .slice B 0 b, .slice C 0 d, .int .i64 f7, .int .i64 f8, .int .i64 f9, .int .i64 f10], .int .i64 z] w (MarkedD L A n c z Bl w) := by
  have B0 : Hid (Below w.heap.size w (w.alloc (.cells #[.int .i64 f0, .int .i64 f1, .slice A n c, .int .i64 f3, .int .i64 f4_0, .int .i64 f4_1, .slice B 0 b, .slice C 0 d, .int .i64 f7, .int .i64 f8, .int .i64 f9, .int .i64 f10] 30))) := Lib.hid (by go_grown)
  have HO := Lib.hid (h.below B0.out)
  have X := Lib.hid ((Held.start w).push #[.int .i64 f0, .int .i64 f1, .slice A n c, .int .i64 f3, .int .i64 f4_0, .int .i64 f4_1, .slice B 0 b, .slice C 0 d, .int .i64 f7, .int .i64 f8, .int .i64 f9, .int .i64 f10] 30)
  have H1 := Lib.hid h1
  have HBl := Lib.hid hB
  clear h h1 hB
  go_enter Try.func31, Try.ntmps31
  go_wp2_with fail
  refine (markValueS L A n c z Bl _ HO.out ht h0 H1.out hn).mono ?_
  rintro e w1 ⟨rfl, hO, hT⟩
  have HO1 := Lib.hid hO
  have HT1 := Lib.hid ((Touch.of_below B0.out).trans hT)
  have Y : Hid (Box w.heap.size [.int .i64 f0, .int .i64 f1, .slice A n c, .int .i64 f3, .int .i64 f4_0, .int .i64 f4_1, .slice B 0 b, .slice C 0 d, .int .i64 f7, .int .i64 f8, .int .i64 f9, .int .i64 f10] w1) := Lib.hid ((X.out.box (g := w.heap.size) (cs := [.int .i64 f0, .int .i64 f1, .slice A n c, .int .i64 f3, .int .i64 f4_0, .int .i64 f4_1, .slice B 0 b, .slice C 0 d, .int .i64 f7, .int .i64 f8, .int .i64 f9, .int .i64 f10]) (by repeat (first | exact List.mem_cons_self | refine List.mem_cons_of_mem _ ?_))).touch hT (fun hb => Nat.lt_irrefl _ (HBl.out _ hb)))
  clear hO hT
  have y0 := Y.out.2 0 (.int .i64 f0) rfl
  have y1 := Y.out.2 1 (.int .i64 f1) rfl
  have y2 := Y.out.2 2 (.slice A n c) rfl
  have y3 := Y.out.2 3 (.int .i64 f3) rfl
  have y4 := Y.out.2 4 (.int .i64 f4_0) rfl
  have y5 := Y.out.2 5 (.int .i64 f4_1) rfl
  have y6 := Y.out.2 6 (.slice B 0 b) rfl
  have y7 := Y.out.2 7 (.slice C 0 d) rfl
  have y8 := Y.out.2 8 (.int .i64 f7) rfl
  have y9 := Y.out.2 9 (.int .i64 f8) rfl
  have y10 := Y.out.2 10 (.int .i64 f9) rfl
  have y11 := Y.out.2 11 (.int .i64 f10) rfl
  go_wp2_with (first
    | ((with_reducible refine (markSentS0 _ _ _ _).mono ?_); rintro e w2 ⟨rfl, rfl⟩)
    | ((with_reducible refine (markAskerS0 _ _ _ _).mono ?_); rintro e w2 ⟨rfl, rfl⟩))
  go_ret
  exact ⟨rfl, HO1.out, HT1.out⟩
set_option maxHeartbeats 4000000 in
theorem heldEnt0 (f0 f1 f3 f4_0 f4_1 f7 f8 f9 f10 : Int) (L : List Dat) (A B C : Option Addr) (n c b d : Nat) (z : Int) (w : World) (h : Lies w (.l (mkAll L z)) [.slice A n c]) (ht : ∀ x ∈ L, Has tyValue x) (h0 : 0 < z) (h1 : z + cntAll L ≤ 1099511627776) (hn : n ≤ 1099511627776) :
    Calls Try.prog 32 #[.agg #[.int .i64 f0, .int .i64 f1, .slice A n c, .int .i64 f3, .int .i64 f4_0, .int .i64 f4_1, .slice B 0 b, .slice C 0 d, .int .i64 f7, .int .i64 f8, .int .i64 f9, .int .i64 f10], .int .i64 z] w (GivesInt (z + cntAll L) w) := by
  have B0 : Hid (Below w.heap.size w (w.alloc (.cells #[.int .i64 f0, .int .i64 f1, .slice A n c, .int .i64 f3, .int .i64 f4_0, .int .i64 f4_1, .slice B 0 b, .slice C 0 d, .int .i64 f7, .int .i64 f8, .int .i64 f9, .int .i64 f10] 30))) := Lib.hid (by go_grown)
  have HO := Lib.hid (h.below B0.out)
  have X := Lib.hid ((Held.start w).push #[.int .i64 f0, .int .i64 f1, .slice A n c, .int .i64 f3, .int .i64 f4_0, .int .i64 f4_1, .slice B 0 b, .slice C 0 d, .int .i64 f7, .int .i64 f8, .int .i64 f9, .int .i64 f10] 30)
  have H1 := Lib.hid h1
  clear h h1
  have hz : (0 : Int) ≤ z + cntAll L := by omega
  go_enter Try.func32, Try.ntmps32
  go_wp2_with fail
  refine (heldValueS L A n c z _ HO.out ht h0 H1.out hn).mono ?_
  rintro e w1 ⟨rfl, hb⟩
  have HB := Lib.hid (B0.out.trans (hb.mono B0.out.size))
  have Y : Hid (Box w.heap.size [.int .i64 f0, .int .i64 f1, .slice A n c, .int .i64 f3, .int .i64 f4_0, .int .i64 f4_1, .slice B 0 b, .slice C 0 d, .int .i64 f7, .int .i64 f8, .int .i64 f9, .int .i64 f10] w1) := Lib.hid ((X.out.box (g := w.heap.size) (cs := [.int .i64 f0, .int .i64 f1, .slice A n c, .int .i64 f3, .int .i64 f4_0, .int .i64 f4_1, .slice B 0 b, .slice C 0 d, .int .i64 f7, .int .i64 f8, .int .i64 f9, .int .i64 f10]) (by repeat (first | exact List.mem_cons_self | refine List.mem_cons_of_mem _ ?_))).below hb)
  clear hb
  have y0 := Y.out.2 0 (.int .i64 f0) rfl
  have y1 := Y.out.2 1 (.int .i64 f1) rfl
  have y2 := Y.out.2 2 (.slice A n c) rfl
  have y3 := Y.out.2 3 (.int .i64 f3) rfl
  have y4 := Y.out.2 4 (.int .i64 f4_0) rfl
  have y5 := Y.out.2 5 (.int .i64 f4_1) rfl
  have y6 := Y.out.2 6 (.slice B 0 b) rfl
  have y7 := Y.out.2 7 (.slice C 0 d) rfl
  have y8 := Y.out.2 8 (.int .i64 f7) rfl
  have y9 := Y.out.2 9 (.int .i64 f8) rfl
  have y10 := Y.out.2 10 (.int .i64 f9) rfl
  have y11 := Y.out.2 11 (.int .i64 f10) rfl
  generalize z + (cntAll L : Int) = zz at *
  go_wp2_with (first
    | ((with_reducible refine (heldSentS0 _ _ _ _).mono ?_); rintro e w2 ⟨rfl, rfl⟩)
    | ((with_reducible refine (heldAskerS0 _ _ _ _).mono ?_); rintro e w2 ⟨rfl, rfl⟩))
  go_ret
  exact GivesInt.ret rfl HB.out
end Go.Proofs.Ytfgijebgnkikpaa
