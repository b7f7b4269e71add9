/- Chapter 12's marks, by program. -/
import Derived.Test.YtmeacgpebpfpbaaMarkW
import Derived.Test.YtmeacgpebpfpbaaMarkE
import Derived.Deep.RegionHeld3
import Derived.LoopTactic
import Derived.Lib.Hide
import Derived.Deep.QuietTactic
import Derived.BigQuiet
import Derived.Deep.RegionWith
import Derived.Handy
namespace Go.Proofs.Ytmeacgpebpfpbaa
open Go.RowKit
set_option linter.unusedVariables false
set_option linter.unusedSimpArgs false
set_option maxRecDepth 100000 in
set_option maxHeartbeats 4000000 in
theorem markAskerS (L : List Dat) (A : Option Addr) (n c : Nat) (z : Int) (B : Nat → Prop) (w : World) (h : Owns w (.l L) [.slice A n c] B) (ht : ∀ x ∈ L, Has tyAsker x) (h0 : 0 < z) (h1 : z + cntAll L ≤ 1099511627776) (hn : n ≤ 1099511627776) :
    Calls Try.prog 104 #[.slice A n c, .int .i64 z] w (MarkedD L A n c z B w) := by
  have HT := Lib.hid ht
  have HC := Lib.hid h.lies.count
  have H := Lib.hid h
  have H1 := Lib.hid h1
  clear h ht h1
  go_enter Try.func104, Try.ntmps104
  go_wp2
  go_loopw [1, 5] (fun zv iv wr => ∃ (i : Nat) (y : Int), i ≤ n ∧ iv = .int .i64 i ∧ zv = .int .i64 y ∧ y = z + cntAll (L.take i) ∧ Owns wr (.l (half L z i)) [.slice A n c] B ∧ Touch B w wr) (fun _ iv _ => n - (intOf iv).toNat)
  case atStart => exact ⟨0, z, Nat.zero_le _, rfl, rfl, by simp [cntAll], by rw [half_zero]; exact H.out, Touch.refl _ _⟩
  case round =>
    obtain ⟨i, y, hin, rfl, rfl, hy, hO, hT⟩ := hrel
    have HY := Lib.hid hy
    have HTo := Lib.hid hT
    clear hy hT
    by_cases hlt : i < n
    · have hzi : L[i]? = some (L[i]'(by have := HC.out; omega)) := List.getElem?_eq_getElem (by have := HC.out; omega)
      generalize L[i]'(by have := HC.out; omega) = d at hzi
      obtain ⟨g, E, cur, d', xs, Bi, Br, rfl, hBg, hh, hdi, hOd, hlen, hBi, hBr, hcell, hfr, hsz, hput⟩ := hO.focus (k := 2) (half_width (fun x hx => (HT.out x hx).width)) hlt
      obtain rfl : d = d' := by rw [half_at hzi] at hdi; exact Option.some.inj hdi
      obtain ⟨f0, f1, rfl, rfl⟩ := invAsker (HT.out d (List.mem_of_getElem? hzi)) hOd.lies
      have hcn : cntAll (L.take (i + 1)) = cntAll (L.take i) + 2 := cnt_next hzi
      have hcl := cnt_take_le L (i + 1)
      have hy0 : 0 < y := by have := HY.out; omega
      have hy1 : y + 2 ≤ 1099511627776 := by have h1 := HY.out; have h2 := H1.out; omega
      have r0 : wr.cell? ⟨g, i * 2, none⟩ = some (.int .i64 f0) := hcell 0 _ rfl
      have q0 := hfr (i * 2)
      have r1 : wr.cell? ⟨g, i * 2 + 1, none⟩ = some (.int .i64 f1) := hcell 1 _ rfl
      have q1 := hfr (i * 2 + 1)
      have hgl : g < wr.heap.size := (Array.getElem?_eq_some_iff.1 hh).1
      have HH := Lib.hid hh
      have HP := Lib.hid hput
      have HZ := Lib.hid hzi
      have HCN := Lib.hid hcn
      have HBR := Lib.hid hBr
      clear hh hput hcell hfr hzi hdi hOd hcn hBi hBr hO hlen
      go_wp2_with fail
      go_roundw
      case rel =>
        have T2 : Touch (fun b => b = g) wr ((wr.setCell ⟨g, i * 2, none⟩ (.int .i64 (y))).setCell ⟨g, i * 2 + 1, none⟩ (.int .i64 (y + 1))) := ((Touch.refl (fun b => b = g) wr).setCell (p := ⟨g, i * 2, none⟩) rfl _).setCell (p := ⟨g, i * 2 + 1, none⟩) rfl _
        refine ⟨i + 1, _, by omega, by go_num, rfl, ?_, ?_, ?_⟩
        · have h1 := HY.out
          have h2 := HCN.out
          omega
        · rw [← half_set HZ.out, ← HY.out]
          refine (HP.out _ (mkd (.r [.i f0, .i f1]) y) [.int .i64 (y), .int .i64 (y + 1)] (fun _ => False) _ rfl ?_ (fun b hb => hb.elim) (heap_set (heap_set HH.out _) _) ?_ (fun b hb hlt => T2.block b hlt (fun e => (HBR.out b hb).2 e))).mono (fun b hb => ?_)
          · exact ownAsker (f0 := y) (f1 := y + 1)
          · simp [setRange]
          · rcases hb with rfl | hb | hb
            · exact hBg
            · exact (HBR.out b hb).1
            · exact hb.elim
        · exact HTo.out.trans (T2.mono (fun b e => by rw [e]; exact hBg))
      case measure => simp [intOf]; omega
    · obtain rfl : i = n := by omega
      have HM : Hid (MarkedD L A i c z B w (.returned (.int .i64 y)) wr) := Lib.hid ⟨by rw [HY.out, List.take_of_length_le (by have := HC.out; omega)], by rw [half_all HC.out] at hO; exact hO, HTo.out⟩
      clear hO
      go_wp2_with fail
      go_ret
      exact HM.out
set_option maxRecDepth 100000 in
set_option maxHeartbeats 4000000 in
theorem heldAskerS (L : List Dat) (A : Option Addr) (n c : Nat) (z : Int) (w : World) (h : Lies w (.l (mkAll L z)) [.slice A n c]) (ht : ∀ x ∈ L, Has tyAsker x) (h0 : 0 < z) (h1 : z + cntAll L ≤ 1099511627776) (hn : n ≤ 1099511627776) :
    Calls Try.prog 143 #[.slice A n c, .int .i64 z] w (GivesInt (z + cntAll L) w) := by
  have HT := Lib.hid ht
  have hc := h.count
  rw [mkAll_len] at hc
  have HC := Lib.hid hc
  have H := Lib.hid h
  have H1 := Lib.hid h1
  have hk : ∀ x ∈ mkAll L z, x.width = 2 := fun x hx => by
    obtain ⟨j, hj, rfl⟩ := List.getElem_of_mem hx
    have hjl : j < L.length := by rw [mkAll_len] at hj; exact hj
    have e := mkAll_at (z := z) (List.getElem?_eq_getElem hjl)
    rw [List.getElem?_eq_getElem hj] at e
    rw [Option.some.inj e, mkd_width]
    exact (ht _ (List.getElem_mem hjl)).width
  have HK := Lib.hid hk
  clear h ht h1 hc hk
  go_enter Try.func143, Try.ntmps143
  go_wp2
  go_loopw [1, 5] (fun zv iv wr => ∃ (i : Nat) (y : Int), i ≤ n ∧ iv = .int .i64 i ∧ zv = .int .i64 y ∧ y = z + cntAll (L.take i) ∧ Below w.heap.size w wr) (fun _ iv _ => n - (intOf iv).toNat)
  case atStart => exact ⟨0, z, Nat.zero_le _, rfl, rfl, by simp [cntAll], Below.refl _ _⟩
  case round =>
    obtain ⟨i, y, hin, rfl, rfl, hy, hb⟩ := hrel
    have HY := Lib.hid hy
    have HB := Lib.hid hb
    clear hy hb
    by_cases hlt : i < n
    · have hzi : L[i]? = some (L[i]'(by have := HC.out; omega)) := List.getElem?_eq_getElem (by have := HC.out; omega)
      generalize L[i]'(by have := HC.out; omega) = d at hzi
      obtain ⟨b, off, d', xs, rfl, hbw, hdi, hlie, hlen, hcell⟩ := (H.out.below HB.out).elem HK.out hlt
      obtain rfl : mkd d (z + cntAll (L.take i)) = d' := by rw [mkAll_at hzi] at hdi; exact Option.some.inj hdi
      rw [← HY.out] at hlie
      obtain ⟨ds, rfl, hds⟩ := HT.out d (List.mem_of_getElem? hzi)
      simp only [HasAll] at hds
      obtain ⟨d0, _, rfl, ⟨f0, rfl, -, -⟩, d1, _, rfl, ⟨f1, rfl, -, -⟩, rfl⟩ := hds
      have hl2 : Lies wr (.r [.i (y), .i (y + 1)]) xs := hlie
      simp only [Lies, LiesAll] at hl2
      obtain ⟨e0, _, rfl, rfl, e1, _, rfl, rfl, rfl⟩ := hl2
      have hcn : cntAll (L.take (i + 1)) = cntAll (L.take i) + 2 := cnt_next hzi
      have hcl := cnt_take_le L (i + 1)
      have hy0 : 0 < y := by have := HY.out; omega
      have hy1 : y + 2 ≤ 1099511627776 := by have h1 := HY.out; have h2 := H1.out; omega
      have r0 : wr.cell? ⟨b, off + i * 2, none⟩ = some (.int .i64 (y)) := hcell 0 _ rfl
      have r1 : wr.cell? ⟨b, off + i * 2 + 1, none⟩ = some (.int .i64 (y + 1)) := hcell 1 _ rfl
      have HCN := Lib.hid hcn
      clear hcn hzi hdi hlie hlen hcell
      go_wp2_with fail
      go_roundw
      case rel =>
        refine ⟨i + 1, _, by omega, by go_num, rfl, ?_, HB.out⟩
        have h1 := HY.out
        have h2 := HCN.out
        omega
      case measure => simp [intOf]; omega
    · obtain rfl : i = n := by omega
      have HE : Hid (y = z + cntAll L) := Lib.hid (by rw [HY.out, List.take_of_length_le (by have := HC.out; omega)])
      go_wp2_with fail
      go_ret
      exact GivesInt.ret HE.out HB.out
theorem cntposValue {d : Dat} (h : Has tyValue d) : 1 ≤ d.cnt := by
  obtain ⟨ds, rfl, hds⟩ := h
  obtain ⟨d0, r0, rfl, h0, -⟩ := hds
  have : 1 ≤ d0.cnt := by obtain ⟨x, rfl, -⟩ := h0; exact Nat.le_refl 1
  show 1 ≤ cntAll (d0 :: r0)
  rw [cntAll]; omega
theorem cntposAsker {d : Dat} (h : Has tyAsker d) : 1 ≤ d.cnt := by
  obtain ⟨ds, rfl, hds⟩ := h
  obtain ⟨d0, r0, rfl, h0, -⟩ := hds
  have : 1 ≤ d0.cnt := by obtain ⟨x, rfl, -⟩ := h0; exact Nat.le_refl 1
  show 1 ≤ cntAll (d0 :: r0)
  rw [cntAll]; omega
theorem mkdSent {f0 : Int} { f1 : ByteArray} { L2 : List Dat} { f3 : Int} { f4_0 : Int} { f4_1 : Int} { f4_2 : Int} (y : Int) : mkd (.r [.i f0, .s f1, .l L2, .i f3, .r [.i f4_0, .i f4_1, .i f4_2]]) y = .r [.i (y), .s (mtext (y + 1).toNat), .l (mkAll L2 (y + 2)), .i (y + 2 + cntAll L2), .r [.i (y + 3 + cntAll L2), .i (y + 4 + cntAll L2), .i (y + 5 + cntAll L2)]] := by
  simp only [mkd, mkAll, Dat.cnt, cntAll]
  exact congrArg Dat.r (cons_eq (congrArg Dat.i (by omega)) (cons_eq (congrArg (fun z : Int => Dat.s (mtext z.toNat)) (by omega)) (cons_eq (congrArg (fun z : Int => Dat.l (mkAll L2 z)) (by omega)) (cons_eq (congrArg Dat.i (by omega)) (cons_eq (congrArg Dat.r (cons_eq (congrArg Dat.i (by omega)) (cons_eq (congrArg Dat.i (by omega)) (cons_eq (congrArg Dat.i (by omega)) rfl)))) rfl)))))
theorem cntSent {f0 : Int} { f1 : ByteArray} { L2 : List Dat} { f3 : Int} { f4_0 : Int} { f4_1 : Int} { f4_2 : Int} : ((.r [.i f0, .s f1, .l L2, .i f3, .r [.i f4_0, .i f4_1, .i f4_2]] : Dat).cnt : Int) = 0 + 6 + cntAll L2 := by
  simp only [Dat.cnt, cntAll]
  omega
theorem cntposSent {d : Dat} (h : Has tySent d) : 1 ≤ d.cnt := by
  obtain ⟨ds, rfl, hds⟩ := h
  obtain ⟨d0, r0, rfl, h0, -⟩ := hds
  have : 1 ≤ d0.cnt := by obtain ⟨x, rfl, -⟩ := h0; exact Nat.le_refl 1
  show 1 ≤ cntAll (d0 :: r0)
  rw [cntAll]; omega
theorem partSent {w : World} {B : Nat → Prop} {f0 : Int} {f1 : ByteArray} {L2 : List Dat} {A2 : Option Addr} {n2 c2 : Nat} {f3 : Int} {f4_0 : Int} {f4_1 : Int} {f4_2 : Int} (h : Owns w (.r [.i f0, .s f1, .l L2, .i f3, .r [.i f4_0, .i f4_1, .i f4_2]]) [.int .i64 f0, .string f1, .slice A2 n2 c2, .int .i64 f3, .int .i64 f4_0, .int .i64 f4_1, .int .i64 f4_2] B) : ∃ P2 : Nat → Prop, Owns w (.l L2) [.slice A2 n2 c2] P2 ∧ (∀ b, P2 b → B b) := by
  rw [Owns] at h
  obtain ⟨R0, Q0, g0, h, p0, q0, d0⟩ := OwnsAll.cut (c1 := [.int .i64 f0]) h rfl
  obtain ⟨R1, Q1, g1, h, p1, q1, d1⟩ := OwnsAll.cut (c1 := [.string f1]) h rfl
  obtain ⟨R2, Q2, g2, h, p2, q2, d2⟩ := OwnsAll.cut (c1 := [.slice A2 n2 c2]) h rfl
  obtain ⟨R3, Q3, g3, h, p3, q3, d3⟩ := OwnsAll.cut (c1 := [.int .i64 f3]) h rfl
  obtain ⟨R4, Q4, g4, h, p4, q4, d4⟩ := OwnsAll.cut (c1 := [.int .i64 f4_0, .int .i64 f4_1, .int .i64 f4_2]) h rfl
  exact ⟨R2, g2, fun b hb => (q0 b (q1 b (p2 b hb)))⟩
theorem ownPSent {w : World} {P2 : Nat → Prop} {f0 : Int} {f1 : ByteArray} {L2 : List Dat} {A2 : Option Addr} {n2 c2 : Nat} {f3 : Int} {f4_0 : Int} {f4_1 : Int} {f4_2 : Int} (hO2 : Owns w (.l L2) [.slice A2 n2 c2] P2)  : Owns w (.r [.i f0, .s f1, .l L2, .i f3, .r [.i f4_0, .i f4_1, .i f4_2]]) [.int .i64 f0, .string f1, .slice A2 n2 c2, .int .i64 f3, .int .i64 f4_0, .int .i64 f4_1, .int .i64 f4_2] (fun b => P2 b ∨ False) := by
  rw [Owns]
  exact (OwnsAll.consF (c1 := [.int .i64 f0]) (d := .i f0) rfl (OwnsAll.consF (c1 := [.string f1]) (d := .s f1) rfl (OwnsAll.consP hO2 (OwnsAll.consF (c1 := [.int .i64 f3]) (d := .i f3) rfl (OwnsAll.consF (c1 := [.int .i64 f4_0, .int .i64 f4_1, .int .i64 f4_2]) (d := .r [.i f4_0, .i f4_1, .i f4_2]) (OwnsAll.consF (c1 := [.int .i64 f4_0]) (d := .i f4_0) rfl (OwnsAll.consF (c1 := [.int .i64 f4_1]) (d := .i f4_1) rfl (OwnsAll.consF (c1 := [.int .i64 f4_2]) (d := .i f4_2) rfl (OwnsAll.nil_ _ _)))) (OwnsAll.nil_ _ (fun _ => False)))) (fun b ha hb => hb.elim))))
set_option maxRecDepth 100000 in
set_option maxHeartbeats 8000000 in
theorem markSentS (L : List Dat) (A : Option Addr) (n c : Nat) (z : Int) (B : Nat → Prop) (w : World) (h : Owns w (.l L) [.slice A n c] B) (ht : ∀ x ∈ L, Has tySent x) (h0 : 0 < z) (h1 : z + cntAll L ≤ 1099511627776) (hn : n ≤ 1099511627776) :
    Calls Try.prog 78 #[.slice A n c, .int .i64 z] w (MarkedD L A n c z B w) := by
  have HT := Lib.hid ht
  have HC := Lib.hid h.lies.count
  have H := Lib.hid h
  have H1 := Lib.hid h1
  clear h ht h1
  go_enter Try.func78, Try.ntmps78
  go_wp2
  go_loopw [1, 5] (fun zv iv wr => ∃ (i : Nat) (y : Int), i ≤ n ∧ iv = .int .i64 i ∧ zv = .int .i64 y ∧ y = z + cntAll (L.take i) ∧ Owns wr (.l (half L z i)) [.slice A n c] B ∧ Touch B w wr) (fun _ iv _ => n - (intOf iv).toNat)
  case atStart => exact ⟨0, z, Nat.zero_le _, rfl, rfl, by simp [cntAll], by rw [half_zero]; exact H.out, Touch.refl _ _⟩
  case round =>
    obtain ⟨i, y, hin, rfl, rfl, hy, hO, hT⟩ := hrel
    have HY := Lib.hid hy
    have HTo := Lib.hid hT
    clear hy hT
    by_cases hlt : i < n
    · have hzi : L[i]? = some (L[i]'(by have := HC.out; omega)) := List.getElem?_eq_getElem (by have := HC.out; omega)
      generalize L[i]'(by have := HC.out; omega) = d at hzi
      obtain ⟨g, E, cur, d', xs, Bi, Br, rfl, hBg, hh, hdi, hOd, hlen, hBi, hBr, hcell, hfr, hsz, hput⟩ := hO.focus (k := 7) (half_width (fun x hx => (HT.out x hx).width)) hlt
      obtain rfl : d = d' := by rw [half_at hzi] at hdi; exact Option.some.inj hdi
      obtain ⟨f0, f1, L2, A2, n2, c2, f3, f4_0, f4_1, f4_2, rfl, rfl, hf1, hl2, ht2, hm2⟩ := invSent (HT.out d (List.mem_of_getElem? hzi)) hOd.lies
      obtain ⟨P2, hO2, hp2⟩ := partSent hOd
      have hcn : (cntAll (L.take (i + 1)) : Int) = cntAll (L.take i) + (0 + 6 + cntAll L2) := by rw [← cntSent (f0 := f0) (f1 := f1) (L2 := L2) (f3 := f3) (f4_0 := f4_0) (f4_1 := f4_1) (f4_2 := f4_2)]; have := cnt_next hzi; omega
      have hcl := cnt_take_le L (i + 1)
      have hyz : y + 6 + cntAll L2 ≤ 1099511627776 := by have h1 := HY.out; have h2 := H1.out; omega
      have hy0 : 0 < y := by have := HY.out; omega
      have hyt : y + 6 ≤ 1099511627776 := by omega
      have hn2 : n2 ≤ 1099511627776 := by have h1 := len_le_cntD (fun x hx => cntposValue (ht2 x hx)); have h2 := hl2.count; omega
      have hP2 : ∀ b, P2 b → B b ∧ b ≠ g ∧ ¬ Br b := fun b hb => hBi b (hp2 b hb)
      have HX := Lib.hid (El.start (B := B) (Br := Br) (W := wr) (g := g) (o := i * 7) (xs := [.int .i64 f0, .string f1, .slice A2 n2 c2, .int .i64 f3, .int .i64 f4_0, .int .i64 f4_1, .int .i64 f4_2]) hh hsz hcell)
      have HO2 := Lib.hid hO2
      have HT2 := Lib.hid ht2
      have HP2 := Lib.hid hP2
      have HG2 : Hid (¬ P2 g) := Lib.hid (fun hb => (HP2.out g hb).2.1 rfl)
      have HPUT := Lib.hid hput
      have HZ := Lib.hid hzi
      have HCN := Lib.hid hcn
      have HBR := Lib.hid hBr
      have HSZ := Lib.hid hsz
      have HRg : Hid (¬ Br g) := Lib.hid (fun hb => (hBr g hb).2 rfl)
      have HBg := Lib.hid hBg
      have HYZ := Lib.hid hyz
      clear hh hput hcell hfr hzi hdi hOd hcn hBi hBr hO hlen hsz hyz hO2 ht2 hp2 hP2 hl2 hm2 hf1
      have r0 : wr.cell? ⟨g, i * 7, none⟩ = some (.int .i64 f0) := HX.out.cell HSZ.out (j := 0) rfl rfl
      have q0 : wr.frozen? ⟨g, i * 7, none⟩ = false := HX.out.frozen _
      go_wp2_with fail
      refine (markTextZ _ _ (by have hz := HYZ.out; omega) (by have hz := HYZ.out; omega)).mono ?_
      rintro e w1 ⟨rfl, hb⟩
      have HX' := Lib.hid ((HX.out.store HSZ.out HBg.out HRg.out (j := 0) (by simp) rfl (.int .i64 (y))).below hb)
      replace HO2 := Lib.hid ((HO2.out.far (p := i * 7) (v := .int .i64 (y)) HG2.out).below hb)
      replace HX := HX'
      clear hb HX' r0 q0
      have r1 : w1.cell? ⟨g, i * 7 + 1, none⟩ = some (.string f1) := HX.out.cell HSZ.out (j := 1) rfl rfl
      have q1 : w1.frozen? ⟨g, i * 7 + 1, none⟩ = false := HX.out.frozen _
      have r2 : w1.cell? ⟨g, i * 7 + 2, none⟩ = some (.slice A2 n2 c2) := HX.out.cell HSZ.out (j := 2) rfl rfl
      have q2 : w1.frozen? ⟨g, i * 7 + 2, none⟩ = false := HX.out.frozen _
      go_wp2_with fail
      refine (markValueS L2 A2 n2 c2 _ P2 _ (HO2.out.far (p := i * 7 + 1) (v := .string (mtext (y + 1).toNat)) HG2.out) HT2.out (by have hz := HYZ.out; omega) (by have hz := HYZ.out; omega) hn2).mono ?_
      rintro e w2 ⟨rfl, hO2, hT9⟩
      have HX' := Lib.hid ((HX.out.store HSZ.out HBg.out HRg.out (j := 1) (by simp) rfl (.string (mtext (y + 1).toNat))).touch hT9 HP2.out)
      replace HO2 := Lib.hid hO2
      replace HX := HX'
      clear hT9 hO2 HX' r1 q1 r2 q2
      obtain ⟨y1, hy1⟩ : ∃ u : Int, u = y + 1 + 1 + cntAll L2 := ⟨_, rfl⟩
      rw [← hy1]
      have HY1 := Lib.hid hy1
      have hp1 : 0 < y1 := by omega
      have hq1 : y1 + 4 ≤ 1099511627776 := by have hz := HYZ.out; omega
      clear hy1
      have r3 : w2.cell? ⟨g, i * 7 + 3, none⟩ = some (.int .i64 f3) := HX.out.cell HSZ.out (j := 3) rfl rfl
      have q3 : w2.frozen? ⟨g, i * 7 + 3, none⟩ = false := HX.out.frozen _
      have r4 : w2.cell? ⟨g, i * 7 + 4, none⟩ = some (.int .i64 f4_0) := HX.out.cell HSZ.out (j := 4) rfl rfl
      have q4 : w2.frozen? ⟨g, i * 7 + 4, none⟩ = false := HX.out.frozen _
      have r5 : w2.cell? ⟨g, i * 7 + 5, none⟩ = some (.int .i64 f4_1) := HX.out.cell HSZ.out (j := 5) rfl rfl
      have q5 : w2.frozen? ⟨g, i * 7 + 5, none⟩ = false := HX.out.frozen _
      have r6 : w2.cell? ⟨g, i * 7 + 6, none⟩ = some (.int .i64 f4_2) := HX.out.cell HSZ.out (j := 6) rfl rfl
      have q6 : w2.frozen? ⟨g, i * 7 + 6, none⟩ = false := HX.out.frozen _
      go_wp2_with fail
      go_roundw
      case rel =>
        have X9 := ((((HX.out.store HSZ.out HBg.out HRg.out (j := 3) (by simp) rfl (.int .i64 (y1))).store HSZ.out HBg.out HRg.out (j := 4) (by simp) rfl (.int .i64 (y1 + 1))).store HSZ.out HBg.out HRg.out (j := 5) (by simp) rfl (.int .i64 (y1 + 1 + 1))).store HSZ.out HBg.out HRg.out (j := 6) (by simp) rfl (.int .i64 (y1 + 1 + 1 + 1)))
        have O2 := ((((HO2.out.far (p := i * 7 + 3) (v := .int .i64 (y1)) HG2.out).far (p := i * 7 + 4) (v := .int .i64 (y1 + 1)) HG2.out).far (p := i * 7 + 5) (v := .int .i64 (y1 + 1 + 1)) HG2.out).far (p := i * 7 + 6) (v := .int .i64 (y1 + 1 + 1 + 1)) HG2.out)
        obtain ⟨cur9, c9, l9⟩ := X9.c
        refine ⟨i + 1, _, by omega, by go_num, rfl, ?_, ?_, HTo.out.trans X9.t⟩
        · have h1 := HY.out
          have h2 := HCN.out
          have eHY1 := HY1.out; omega
        · rw [← half_set HZ.out, ← HY.out, mkdSent]
          have eHY1 := HY1.out; skip
          refine (HPUT.out _ _ _ (fun b => P2 b ∨ False) cur9 rfl ?_ (fun b hb => ?_) c9 l9 X9.r).mono (fun b hb => ?_)
          · refine Eq.mp (congrArg (fun cs => Owns _ _ cs _) ?_) (ownPSent (f0 := y) (f1 := mtext (y + 1).toNat) (L2 := mkAll L2 (y + 2)) (f3 := y + 2 + cntAll L2) (f4_0 := y + 3 + cntAll L2) (f4_1 := y + 4 + cntAll L2) (f4_2 := y + 5 + cntAll L2) (show Owns _ (.l (mkAll L2 (y + 2))) _ _ from Eq.mp (congrArg (fun u : Int => Owns _ (.l (mkAll L2 u)) _ _) (by omega)) O2) )
            simp only [List.set]
            exact (cons_eq (congrArg (Value.int .i64) (by omega)) (cons_eq (congrArg (fun u : Int => Value.string (mtext u.toNat)) (by omega)) (cons_eq rfl (cons_eq (congrArg (Value.int .i64) (by omega)) (cons_eq (congrArg (Value.int .i64) (by omega)) (cons_eq (congrArg (Value.int .i64) (by omega)) (cons_eq (congrArg (Value.int .i64) (by omega)) rfl)))))))
          · rcases hb with hb | hb
            · exact (HP2.out b hb).2
            · exact hb.elim
          · rcases hb with rfl | hb | hb | hb
            · exact HBg.out
            · exact (HBR.out b hb).1
            · exact (HP2.out b hb).1
            · exact hb.elim
      case measure => simp [intOf]; omega
    · obtain rfl : i = n := by omega
      have HM : Hid (MarkedD L A i c z B w (.returned (.int .i64 y)) wr) := Lib.hid ⟨by rw [HY.out, List.take_of_length_le (by have := HC.out; omega)], by rw [half_all HC.out] at hO; exact hO, HTo.out⟩
      clear hO
      go_wp2_with fail
      go_ret
      exact HM.out
set_option maxRecDepth 100000 in
set_option maxHeartbeats 8000000 in
theorem heldSentS (L : List Dat) (A : Option Addr) (n c : Nat) (z : Int) (w : World) (h : Lies w (.l (mkAll L z)) [.slice A n c]) (ht : ∀ x ∈ L, Has tySent x) (h0 : 0 < z) (h1 : z + cntAll L ≤ 1099511627776) (hn : n ≤ 1099511627776) :
    Calls Try.prog 82 #[.slice A n c, .int .i64 z] w (GivesInt (z + cntAll L) w) := by
  have HT := Lib.hid ht
  have hc := h.count
  rw [mkAll_len] at hc
  have HC := Lib.hid hc
  have H := Lib.hid h
  have H1 := Lib.hid h1
  have hk : ∀ x ∈ mkAll L z, x.width = 7 := fun x hx => by
    obtain ⟨j, hj, rfl⟩ := List.getElem_of_mem hx
    have hjl : j < L.length := by rw [mkAll_len] at hj; exact hj
    have e := mkAll_at (z := z) (List.getElem?_eq_getElem hjl)
    rw [List.getElem?_eq_getElem hj] at e
    rw [Option.some.inj e, mkd_width]
    exact (ht _ (List.getElem_mem hjl)).width
  have HK := Lib.hid hk
  clear h ht h1 hc hk
  go_enter Try.func82, Try.ntmps82
  go_wp2
  go_loopw [1, 5] (fun zv iv wr => ∃ (i : Nat) (y : Int), i ≤ n ∧ iv = .int .i64 i ∧ zv = .int .i64 y ∧ y = z + cntAll (L.take i) ∧ Below w.heap.size w wr) (fun _ iv _ => n - (intOf iv).toNat)
  case atStart => exact ⟨0, z, Nat.zero_le _, rfl, rfl, by simp [cntAll], Below.refl _ _⟩
  case round =>
    obtain ⟨i, y, hin, rfl, rfl, hy, hb⟩ := hrel
    have HY := Lib.hid hy
    have HB := Lib.hid hb
    clear hy hb
    by_cases hlt : i < n
    · have hzi : L[i]? = some (L[i]'(by have := HC.out; omega)) := List.getElem?_eq_getElem (by have := HC.out; omega)
      generalize L[i]'(by have := HC.out; omega) = d at hzi
      obtain ⟨b, off, d', xs, rfl, hbw, hdi, hlie, hlen, hcell⟩ := (H.out.below HB.out).elem HK.out hlt
      obtain rfl : mkd d (z + cntAll (L.take i)) = d' := by rw [mkAll_at hzi] at hdi; exact Option.some.inj hdi
      rw [← HY.out] at hlie
      obtain ⟨ds, rfl, hds⟩ := HT.out d (List.mem_of_getElem? hzi)
      simp only [HasAll] at hds
      obtain ⟨d0, r0, rfl, ⟨f0, rfl, -, -⟩, d1, r1, rfl, ⟨f1, rfl, hf1⟩, d2, r2, rfl, ⟨L2, rfl, hm2, ht2⟩, d3, r3, rfl, ⟨f3, rfl, -, -⟩, d4, r4, rfl, ⟨ds4, rfl, d4_0, r4_0, rfl, ⟨f4_0, rfl, -, -⟩, d4_1, r4_1, rfl, ⟨f4_1, rfl, -, -⟩, d4_2, r4_2, rfl, ⟨f4_2, rfl, -, -⟩, rfl⟩, rfl⟩ := hds
      rw [mkdSent] at hlie
      simp only [Lies, LiesAll] at hlie
      obtain ⟨e0, q0, rfl, rfl, e1, q1, rfl, rfl, e2, q2, rfl, ⟨A2, m2, c2, rfl, hn2, hh2⟩, e3, q3, rfl, rfl, e4, q4, rfl, ⟨e4_0, q4_0, rfl, rfl, e4_1, q4_1, rfl, rfl, e4_2, q4_2, rfl, rfl, rfl⟩, rfl⟩ := hlie
      have hcn : (cntAll (L.take (i + 1)) : Int) = cntAll (L.take i) + (0 + 6 + cntAll L2) := by rw [← cntSent (f0 := f0) (f1 := f1) (L2 := L2) (f3 := f3) (f4_0 := f4_0) (f4_1 := f4_1) (f4_2 := f4_2)]; have := cnt_next hzi; omega
      have hcl := cnt_take_le L (i + 1)
      have hyz : y + 6 + cntAll L2 ≤ 1099511627776 := by have h1 := HY.out; have h2 := H1.out; omega
      have hy0 : 0 < y := by have := HY.out; omega
      have hyt : y + 6 ≤ 1099511627776 := by omega
      have HL2 : Hid (Lies wr (.l (mkAll L2 (y + 2))) [.slice A2 m2 c2]) := Lib.hid (by rw [Lies]; exact ⟨A2, m2, c2, rfl, hn2, hh2⟩)
      have hu2 : m2 ≤ 1099511627776 := by have h1 := len_le_cntD (fun x hx => cntposValue (ht2 x hx)); rw [mkAll_len] at hn2; omega
      have HT2 := Lib.hid ht2
      have s0 : wr.cell? ⟨b, off + i * 7, none⟩ = some (.int .i64 (y)) := hcell 0 _ rfl
      have s1 : wr.cell? ⟨b, off + i * 7 + 1, none⟩ = some (.string (mtext (y + 1).toNat)) := hcell 1 _ rfl
      have s2 : wr.cell? ⟨b, off + i * 7 + 2, none⟩ = some (.slice A2 m2 c2) := hcell 2 _ rfl
      have s3 : wr.cell? ⟨b, off + i * 7 + 3, none⟩ = some (.int .i64 (y + 2 + cntAll L2)) := hcell 3 _ rfl
      have s4 : wr.cell? ⟨b, off + i * 7 + 4, none⟩ = some (.int .i64 (y + 3 + cntAll L2)) := hcell 4 _ rfl
      have s5 : wr.cell? ⟨b, off + i * 7 + 5, none⟩ = some (.int .i64 (y + 4 + cntAll L2)) := hcell 5 _ rfl
      have s6 : wr.cell? ⟨b, off + i * 7 + 6, none⟩ = some (.int .i64 (y + 5 + cntAll L2)) := hcell 6 _ rfl
      have HCN := Lib.hid hcn
      have HYZ := Lib.hid hyz
      have HS : Hid (wr.cell? ⟨b, off + i * 7, none⟩ = some (.int .i64 (y)) ∧ wr.cell? ⟨b, off + i * 7 + 1, none⟩ = some (.string (mtext (y + 1).toNat)) ∧ wr.cell? ⟨b, off + i * 7 + 2, none⟩ = some (.slice A2 m2 c2) ∧ wr.cell? ⟨b, off + i * 7 + 3, none⟩ = some (.int .i64 (y + 2 + cntAll L2)) ∧ wr.cell? ⟨b, off + i * 7 + 4, none⟩ = some (.int .i64 (y + 3 + cntAll L2)) ∧ wr.cell? ⟨b, off + i * 7 + 5, none⟩ = some (.int .i64 (y + 4 + cntAll L2)) ∧ wr.cell? ⟨b, off + i * 7 + 6, none⟩ = some (.int .i64 (y + 5 + cntAll L2))) := Lib.hid ⟨s0, s1, s2, s3, s4, s5, s6⟩
      have HBW := Lib.hid hbw
      clear hcn hzi hdi hlen hcell hyz s0 s1 s2 s3 s4 s5 s6 ht2 hm2 hn2 hh2 hf1
      have HQ : Hid (Below wr.heap.size wr wr) := Lib.hid (Below.refl _ _)
      have r0 : wr.cell? ⟨b, off + i * 7, none⟩ = some (.int .i64 (y)) := by rw [show y = y by omega]; exact (HQ.out.cell (p := ⟨b, off + i * 7, none⟩) HBW.out).trans HS.out.1
      have K0 : Hid (wr.drew.cell? ⟨b, off + i * 7 + 1, none⟩ = some (.string (mtext (y + 1).toNat))) := Lib.hid (show wr.cell? ⟨b, off + i * 7 + 1, none⟩ = some (.string (mtext (y + 1).toNat)) by rw [show y + 1 = y + 1 by omega]; exact (HQ.out.cell (p := ⟨b, off + i * 7 + 1, none⟩) HBW.out).trans HS.out.2.1)
      have hbq : b < wr.heap.size := Nat.lt_of_lt_of_le HBW.out HQ.out.size
      go_wp2_with fail
      go_region_held3 (fun w' => w'.cell? ⟨b, off + i * 7 + 1, none⟩ = some (.string (mtext (y + 1).toNat)))
        (first | exact K0.out | exact K1.out)
        ((go_at_call 138; refine (markTextZ _ _ (by have hz := HYZ.out; omega) (by have hz := HYZ.out; omega)).mono ?_; rintro e w1 ⟨rfl, hb2⟩; have K1 := Lib.hid (show w1.cell? ⟨b, off + i * 7 + 1, none⟩ = some (.string (mtext (y + 1).toNat)) from (hb2.cell (p := ⟨b, off + i * 7 + 1, none⟩) (by show b < wr.drew.heap.size; exact hbq)).trans K0.out); have HB3 := Lib.hid (show Below wr.heap.size wr w1 from (Below.refl _ _).drew.trans hb2); replace HQ := Lib.hid (HQ.out.trans (HB3.out.mono HQ.out.size)); clear hb2))
      all_goals (
        have r2 : w1.cell? ⟨b, off + i * 7 + 2, none⟩ = some (.slice A2 m2 c2) := (HQ.out.cell (p := ⟨b, off + i * 7 + 2, none⟩) HBW.out).trans HS.out.2.2.1
        go_wp2_with fail
        refine (heldValueS L2 A2 m2 c2 _ _ (Eq.mp (congrArg (fun u : Int => Lies _ (.l (mkAll L2 u)) _) (by omega)) (HL2.out.below HQ.out)) HT2.out (by have hz := HYZ.out; omega) (by have hz := HYZ.out; omega) hu2).mono ?_
        rintro e w2 ⟨rfl, hb⟩
        replace HQ := Lib.hid (HQ.out.trans (hb.mono HQ.out.size))
        clear hb r2
        obtain ⟨y1, hy1⟩ : ∃ u : Int, u = y + 1 + 1 + cntAll L2 := ⟨_, rfl⟩
        rw [← hy1]
        have HY1 := Lib.hid hy1
        have hp1 : 0 ≤ y1 := by omega
        have hq1 : y1 + 4 ≤ 1099511627776 := by have hz := HYZ.out; omega
        clear hy1
        have r3 : w2.cell? ⟨b, off + i * 7 + 3, none⟩ = some (.int .i64 (y1)) := by have eHY1 := HY1.out; rw [show y1 = y + 2 + cntAll L2 by omega]; exact (HQ.out.cell (p := ⟨b, off + i * 7 + 3, none⟩) HBW.out).trans HS.out.2.2.2.1
        have r4 : w2.cell? ⟨b, off + i * 7 + 4, none⟩ = some (.int .i64 (y1 + 1)) := by have eHY1 := HY1.out; rw [show y1 + 1 = y + 3 + cntAll L2 by omega]; exact (HQ.out.cell (p := ⟨b, off + i * 7 + 4, none⟩) HBW.out).trans HS.out.2.2.2.2.1
        have r5 : w2.cell? ⟨b, off + i * 7 + 5, none⟩ = some (.int .i64 (y1 + 1 + 1)) := by have eHY1 := HY1.out; rw [show y1 + 1 + 1 = y + 4 + cntAll L2 by omega]; exact (HQ.out.cell (p := ⟨b, off + i * 7 + 5, none⟩) HBW.out).trans HS.out.2.2.2.2.2.1
        have r6 : w2.cell? ⟨b, off + i * 7 + 6, none⟩ = some (.int .i64 (y1 + 1 + 1 + 1)) := by have eHY1 := HY1.out; rw [show y1 + 1 + 1 + 1 = y + 5 + cntAll L2 by omega]; exact (HQ.out.cell (p := ⟨b, off + i * 7 + 6, none⟩) HBW.out).trans HS.out.2.2.2.2.2.2
        go_wp2_with fail
        go_roundw
        case rel =>
          refine ⟨i + 1, _, by omega, by go_num, rfl, ?_, HB.out.trans (HQ.out.mono HB.out.size)⟩
          have h1 := HY.out
          have h2 := HCN.out
          have eHY1 := HY1.out; omega
        case measure => simp [intOf]; omega)
    · obtain rfl : i = n := by omega
      have HE : Hid (y = z + cntAll L) := Lib.hid (by rw [HY.out, List.take_of_length_le (by have := HC.out; omega)])
      go_wp2_with fail
      go_ret
      exact GivesInt.ret HE.out HB.out
end Go.Proofs.Ytmeacgpebpfpbaa
