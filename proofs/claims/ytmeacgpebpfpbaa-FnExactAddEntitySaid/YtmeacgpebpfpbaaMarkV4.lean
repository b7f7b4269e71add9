/- Chapter 12's marks, by program. -/
import Derived.Test.YtmeacgpebpfpbaaMarkW
import Derived.Test.YtmeacgpebpfpbaaMzMsgV
import Derived.Test.YtmeacgpebpfpbaaTyV0
import Derived.Deep.RegionHeld3
import Derived.LoopTactic
import Derived.Lib.Hide
import Derived.Deep.QuietTactic
import Derived.BigQuiet
import Derived.Deep.RegionWith
import Derived.Handy
namespace Go.Proofs.Ytmeacgpebpfpbaa
open Go.RowKit
set_option linter.unusedVariables false
set_option linter.unusedSimpArgs false
theorem cntposWire {d : Dat} (h : Has tyWire d) : 1 ≤ d.cnt := by
  obtain ⟨ds, rfl, hds⟩ := h
  obtain ⟨d0, r0, rfl, h0, -⟩ := hds
  have : 1 ≤ d0.cnt := by obtain ⟨x, rfl, -⟩ := h0; exact Nat.le_refl 1
  show 1 ≤ cntAll (d0 :: r0)
  rw [cntAll]; omega
theorem partMessage {w : World} {B : Nat → Prop} {f0 : Int} {f1 : Int} {f2 : Int} {f3 : Int} {f4 : ByteArray} {L5 : List Dat} {A5 : Option Addr} {n5 c5 : Nat} {f6_0 : Int} {f6_1 : Int} {f7 : Int} {f8_0 : Int} {f8_1 : Int} {f8_2 : Int} (h : Owns w (.r [.i f0, .i f1, .i f2, .i f3, .s f4, .l L5, .r [.i f6_0, .i f6_1], .i f7, .r [.i f8_0, .i f8_1, .i f8_2]]) [.int .i64 f0, .int .i64 f1, .int .i64 f2, .int .i64 f3, .string f4, .slice A5 n5 c5, .int .i64 f6_0, .int .i64 f6_1, .int .i64 f7, .int .i64 f8_0, .int .i64 f8_1, .int .i64 f8_2] B) : ∃ P5 : Nat → Prop, Owns w (.l L5) [.slice A5 n5 c5] P5 ∧ (∀ b, P5 b → B b) := by
  rw [Owns] at h
  obtain ⟨R0, Q0, g0, h, p0, q0, d0⟩ := OwnsAll.cut (c1 := [.int .i64 f0]) h rfl
  obtain ⟨R1, Q1, g1, h, p1, q1, d1⟩ := OwnsAll.cut (c1 := [.int .i64 f1]) h rfl
  obtain ⟨R2, Q2, g2, h, p2, q2, d2⟩ := OwnsAll.cut (c1 := [.int .i64 f2]) h rfl
  obtain ⟨R3, Q3, g3, h, p3, q3, d3⟩ := OwnsAll.cut (c1 := [.int .i64 f3]) h rfl
  obtain ⟨R4, Q4, g4, h, p4, q4, d4⟩ := OwnsAll.cut (c1 := [.string f4]) h rfl
  obtain ⟨R5, Q5, g5, h, p5, q5, d5⟩ := OwnsAll.cut (c1 := [.slice A5 n5 c5]) h rfl
  obtain ⟨R6, Q6, g6, h, p6, q6, d6⟩ := OwnsAll.cut (c1 := [.int .i64 f6_0, .int .i64 f6_1]) h rfl
  obtain ⟨R7, Q7, g7, h, p7, q7, d7⟩ := OwnsAll.cut (c1 := [.int .i64 f7]) h rfl
  obtain ⟨R8, Q8, g8, h, p8, q8, d8⟩ := OwnsAll.cut (c1 := [.int .i64 f8_0, .int .i64 f8_1, .int .i64 f8_2]) h rfl
  exact ⟨R5, g5, fun b hb => (q0 b (q1 b (q2 b (q3 b (q4 b (p5 b hb))))))⟩
theorem ownPMessage {w : World} {P5 : Nat → Prop} {f0 : Int} {f1 : Int} {f2 : Int} {f3 : Int} {f4 : ByteArray} {L5 : List Dat} {A5 : Option Addr} {n5 c5 : Nat} {f6_0 : Int} {f6_1 : Int} {f7 : Int} {f8_0 : Int} {f8_1 : Int} {f8_2 : Int} (hO5 : Owns w (.l L5) [.slice A5 n5 c5] P5)  : Owns w (.r [.i f0, .i f1, .i f2, .i f3, .s f4, .l L5, .r [.i f6_0, .i f6_1], .i f7, .r [.i f8_0, .i f8_1, .i f8_2]]) [.int .i64 f0, .int .i64 f1, .int .i64 f2, .int .i64 f3, .string f4, .slice A5 n5 c5, .int .i64 f6_0, .int .i64 f6_1, .int .i64 f7, .int .i64 f8_0, .int .i64 f8_1, .int .i64 f8_2] (fun b => P5 b ∨ False) := by
  rw [Owns]
  exact (OwnsAll.consF (c1 := [.int .i64 f0]) (d := .i f0) rfl (OwnsAll.consF (c1 := [.int .i64 f1]) (d := .i f1) rfl (OwnsAll.consF (c1 := [.int .i64 f2]) (d := .i f2) rfl (OwnsAll.consF (c1 := [.int .i64 f3]) (d := .i f3) rfl (OwnsAll.consF (c1 := [.string f4]) (d := .s f4) rfl (OwnsAll.consP hO5 (OwnsAll.consF (c1 := [.int .i64 f6_0, .int .i64 f6_1]) (d := .r [.i f6_0, .i f6_1]) (OwnsAll.consF (c1 := [.int .i64 f6_0]) (d := .i f6_0) rfl (OwnsAll.consF (c1 := [.int .i64 f6_1]) (d := .i f6_1) rfl (OwnsAll.nil_ _ _))) (OwnsAll.consF (c1 := [.int .i64 f7]) (d := .i f7) rfl (OwnsAll.consF (c1 := [.int .i64 f8_0, .int .i64 f8_1, .int .i64 f8_2]) (d := .r [.i f8_0, .i f8_1, .i f8_2]) (OwnsAll.consF (c1 := [.int .i64 f8_0]) (d := .i f8_0) rfl (OwnsAll.consF (c1 := [.int .i64 f8_1]) (d := .i f8_1) rfl (OwnsAll.consF (c1 := [.int .i64 f8_2]) (d := .i f8_2) rfl (OwnsAll.nil_ _ _)))) (OwnsAll.nil_ _ (fun _ => False))))) (fun b ha hb => hb.elim)))))))
theorem mkdOutgoing {f0 : Int} { f1_0 : Int} { f1_1 : Int} { f1_2 : Int} { f1_3 : Int} { f1_4 : ByteArray} { L1_5 : List Dat} { f1_6_0 : Int} { f1_6_1 : Int} { f1_7 : Int} { f1_8_0 : Int} { f1_8_1 : Int} { f1_8_2 : Int} (y : Int) : mkd (.r [.i f0, .r [.i f1_0, .i f1_1, .i f1_2, .i f1_3, .s f1_4, .l L1_5, .r [.i f1_6_0, .i f1_6_1], .i f1_7, .r [.i f1_8_0, .i f1_8_1, .i f1_8_2]]]) y = .r [.i (y), .r [.i (y + 1), .i (y + 2), .i (y + 3), .i (y + 4), .s (mtext (y + 5).toNat), .l (mkAll L1_5 (y + 6)), .r [.i (y + 6 + cntAll L1_5), .i (y + 7 + cntAll L1_5)], .i (y + 8 + cntAll L1_5), .r [.i (y + 9 + cntAll L1_5), .i (y + 10 + cntAll L1_5), .i (y + 11 + cntAll L1_5)]]] := by
  simp only [mkd, mkAll, Dat.cnt, cntAll]
  exact congrArg Dat.r (cons_eq (congrArg Dat.i (by omega)) (cons_eq (congrArg Dat.r (cons_eq (congrArg Dat.i (by omega)) (cons_eq (congrArg Dat.i (by omega)) (cons_eq (congrArg Dat.i (by omega)) (cons_eq (congrArg Dat.i (by omega)) (cons_eq (congrArg (fun z : Int => Dat.s (mtext z.toNat)) (by omega)) (cons_eq (congrArg (fun z : Int => Dat.l (mkAll L1_5 z)) (by omega)) (cons_eq (congrArg Dat.r (cons_eq (congrArg Dat.i (by omega)) (cons_eq (congrArg Dat.i (by omega)) rfl))) (cons_eq (congrArg Dat.i (by omega)) (cons_eq (congrArg Dat.r (cons_eq (congrArg Dat.i (by omega)) (cons_eq (congrArg Dat.i (by omega)) (cons_eq (congrArg Dat.i (by omega)) rfl)))) rfl)))))))))) rfl))
theorem cntOutgoing {f0 : Int} { f1_0 : Int} { f1_1 : Int} { f1_2 : Int} { f1_3 : Int} { f1_4 : ByteArray} { L1_5 : List Dat} { f1_6_0 : Int} { f1_6_1 : Int} { f1_7 : Int} { f1_8_0 : Int} { f1_8_1 : Int} { f1_8_2 : Int} : ((.r [.i f0, .r [.i f1_0, .i f1_1, .i f1_2, .i f1_3, .s f1_4, .l L1_5, .r [.i f1_6_0, .i f1_6_1], .i f1_7, .r [.i f1_8_0, .i f1_8_1, .i f1_8_2]]] : Dat).cnt : Int) = 0 + 12 + cntAll L1_5 := by
  simp only [Dat.cnt, cntAll]
  omega
theorem partOutgoing {w : World} {B : Nat → Prop} {f0 : Int} {f1_0 : Int} {f1_1 : Int} {f1_2 : Int} {f1_3 : Int} {f1_4 : ByteArray} {L1_5 : List Dat} {A1_5 : Option Addr} {n1_5 c1_5 : Nat} {f1_6_0 : Int} {f1_6_1 : Int} {f1_7 : Int} {f1_8_0 : Int} {f1_8_1 : Int} {f1_8_2 : Int} (h : Owns w (.r [.i f0, .r [.i f1_0, .i f1_1, .i f1_2, .i f1_3, .s f1_4, .l L1_5, .r [.i f1_6_0, .i f1_6_1], .i f1_7, .r [.i f1_8_0, .i f1_8_1, .i f1_8_2]]]) [.int .i64 f0, .int .i64 f1_0, .int .i64 f1_1, .int .i64 f1_2, .int .i64 f1_3, .string f1_4, .slice A1_5 n1_5 c1_5, .int .i64 f1_6_0, .int .i64 f1_6_1, .int .i64 f1_7, .int .i64 f1_8_0, .int .i64 f1_8_1, .int .i64 f1_8_2] B) : ∃ P1_5 : Nat → Prop, Owns w (.l L1_5) [.slice A1_5 n1_5 c1_5] P1_5 ∧ (∀ b, P1_5 b → B b) := by
  rw [Owns] at h
  obtain ⟨R0, Q0, g0, h, p0, q0, d0⟩ := OwnsAll.cut (c1 := [.int .i64 f0]) h rfl
  obtain ⟨R1, Q1, g1, h, p1, q1, d1⟩ := OwnsAll.cut (c1 := [.int .i64 f1_0, .int .i64 f1_1, .int .i64 f1_2, .int .i64 f1_3, .string f1_4, .slice A1_5 n1_5 c1_5, .int .i64 f1_6_0, .int .i64 f1_6_1, .int .i64 f1_7, .int .i64 f1_8_0, .int .i64 f1_8_1, .int .i64 f1_8_2]) h rfl
  obtain ⟨S1, g1, s1⟩ := partMessage g1
  exact ⟨S1, g1, fun b hb => (q0 b (p1 b (s1 b hb)))⟩
theorem ownPOutgoing {w : World} {P1_5 : Nat → Prop} {f0 : Int} {f1_0 : Int} {f1_1 : Int} {f1_2 : Int} {f1_3 : Int} {f1_4 : ByteArray} {L1_5 : List Dat} {A1_5 : Option Addr} {n1_5 c1_5 : Nat} {f1_6_0 : Int} {f1_6_1 : Int} {f1_7 : Int} {f1_8_0 : Int} {f1_8_1 : Int} {f1_8_2 : Int} (hO1_5 : Owns w (.l L1_5) [.slice A1_5 n1_5 c1_5] P1_5)  : Owns w (.r [.i f0, .r [.i f1_0, .i f1_1, .i f1_2, .i f1_3, .s f1_4, .l L1_5, .r [.i f1_6_0, .i f1_6_1], .i f1_7, .r [.i f1_8_0, .i f1_8_1, .i f1_8_2]]]) [.int .i64 f0, .int .i64 f1_0, .int .i64 f1_1, .int .i64 f1_2, .int .i64 f1_3, .string f1_4, .slice A1_5 n1_5 c1_5, .int .i64 f1_6_0, .int .i64 f1_6_1, .int .i64 f1_7, .int .i64 f1_8_0, .int .i64 f1_8_1, .int .i64 f1_8_2] (fun b => (P1_5 b ∨ False) ∨ False) := by
  rw [Owns]
  exact (OwnsAll.consF (c1 := [.int .i64 f0]) (d := .i f0) rfl (OwnsAll.consP (c1 := [.int .i64 f1_0, .int .i64 f1_1, .int .i64 f1_2, .int .i64 f1_3, .string f1_4, .slice A1_5 n1_5 c1_5, .int .i64 f1_6_0, .int .i64 f1_6_1, .int .i64 f1_7, .int .i64 f1_8_0, .int .i64 f1_8_1, .int .i64 f1_8_2]) (d := .r [.i f1_0, .i f1_1, .i f1_2, .i f1_3, .s f1_4, .l L1_5, .r [.i f1_6_0, .i f1_6_1], .i f1_7, .r [.i f1_8_0, .i f1_8_1, .i f1_8_2]]) (ownPMessage hO1_5) (OwnsAll.nil_ _ (fun _ => False)) (fun b ha hb => hb.elim)))
set_option maxRecDepth 100000 in
set_option maxHeartbeats 8000000 in
theorem markOutgoingS (L : List Dat) (A : Option Addr) (n c : Nat) (z : Int) (B : Nat → Prop) (w : World) (h : Owns w (.l L) [.slice A n c] B) (ht : ∀ x ∈ L, Has tyOutgoing x) (h0 : 0 < z) (h1 : z + cntAll L ≤ 1099511627776) (hn : n ≤ 1099511627776) :
    Calls Try.prog 80 #[.slice A n c, .int .i64 z] w (MarkedD L A n c z B w) := by
  have HT := Lib.hid ht
  have HC := Lib.hid h.lies.count
  have H := Lib.hid h
  have H1 := Lib.hid h1
  clear h ht h1
  go_enter Try.func80, Try.ntmps80
  go_wp2
  go_loopw [1, 5] (fun zv iv wr => ∃ (i : Nat) (y : Int), i ≤ n ∧ iv = .int .i64 i ∧ zv = .int .i64 y ∧ y = z + cntAll (L.take i) ∧ Owns wr (.l (half L z i)) [.slice A n c] B ∧ Touch B w wr) (fun _ iv _ => n - (intOf iv).toNat)
  case atStart => exact ⟨0, z, Nat.zero_le _, rfl, rfl, by simp [cntAll], by rw [half_zero]; exact H.out, Touch.refl _ _⟩
  case round =>
    obtain ⟨i, y, hin, rfl, rfl, hy, hO, hT⟩ := hrel
    have HY := Lib.hid hy
    have HTo := Lib.hid hT
    clear hy hT
    by_cases hlt : i < n
    · have hzi : L[i]? = some (L[i]'(by have := HC.out; omega)) := List.getElem?_eq_getElem (by have := HC.out; omega)
      generalize L[i]'(by have := HC.out; omega) = d at hzi
      obtain ⟨g, E, cur, d', xs, Bi, Br, rfl, hBg, hh, hdi, hOd, hlen, hBi, hBr, hcell, hfr, hsz, hput⟩ := hO.focus (k := 13) (half_width (fun x hx => (HT.out x hx).width)) hlt
      obtain rfl : d = d' := by rw [half_at hzi] at hdi; exact Option.some.inj hdi
      obtain ⟨f0, f1_0, f1_1, f1_2, f1_3, f1_4, L1_5, A1_5, n1_5, c1_5, f1_6_0, f1_6_1, f1_7, f1_8_0, f1_8_1, f1_8_2, rfl, rfl, hf1_4, hl1_5, ht1_5, hm1_5⟩ := invOutgoing (HT.out d (List.mem_of_getElem? hzi)) hOd.lies
      obtain ⟨P1_5, hO1_5, hp1_5⟩ := partOutgoing hOd
      have hcn : (cntAll (L.take (i + 1)) : Int) = cntAll (L.take i) + (0 + 12 + cntAll L1_5) := by rw [← cntOutgoing (f0 := f0) (f1_0 := f1_0) (f1_1 := f1_1) (f1_2 := f1_2) (f1_3 := f1_3) (f1_4 := f1_4) (L1_5 := L1_5) (f1_6_0 := f1_6_0) (f1_6_1 := f1_6_1) (f1_7 := f1_7) (f1_8_0 := f1_8_0) (f1_8_1 := f1_8_1) (f1_8_2 := f1_8_2)]; have := cnt_next hzi; omega
      have hcl := cnt_take_le L (i + 1)
      have hyz : y + 12 + cntAll L1_5 ≤ 1099511627776 := by have h1 := HY.out; have h2 := H1.out; omega
      have hy0 : 0 < y := by have := HY.out; omega
      have hyt : y + 12 ≤ 1099511627776 := by omega
      have hn1_5 : n1_5 ≤ 1099511627776 := by have h1 := len_le_cntD (fun x hx => cntposWire (ht1_5 x hx)); have h2 := hl1_5.count; omega
      have hP1_5 : ∀ b, P1_5 b → B b ∧ b ≠ g ∧ ¬ Br b := fun b hb => hBi b (hp1_5 b hb)
      have HX := Lib.hid (El.start (B := B) (Br := Br) (W := wr) (g := g) (o := i * 13) (xs := [.int .i64 f0, .int .i64 f1_0, .int .i64 f1_1, .int .i64 f1_2, .int .i64 f1_3, .string f1_4, .slice A1_5 n1_5 c1_5, .int .i64 f1_6_0, .int .i64 f1_6_1, .int .i64 f1_7, .int .i64 f1_8_0, .int .i64 f1_8_1, .int .i64 f1_8_2]) hh hsz hcell)
      have HO1_5 := Lib.hid hO1_5
      have HT1_5 := Lib.hid ht1_5
      have HP1_5 := Lib.hid hP1_5
      have HG1_5 : Hid (¬ P1_5 g) := Lib.hid (fun hb => (HP1_5.out g hb).2.1 rfl)
      have HPUT := Lib.hid hput
      have HZ := Lib.hid hzi
      have HCN := Lib.hid hcn
      have HBR := Lib.hid hBr
      have HSZ := Lib.hid hsz
      have HRg : Hid (¬ Br g) := Lib.hid (fun hb => (hBr g hb).2 rfl)
      have HBg := Lib.hid hBg
      have HYZ := Lib.hid hyz
      clear hh hput hcell hfr hzi hdi hOd hcn hBi hBr hO hlen hsz hyz hO1_5 ht1_5 hp1_5 hP1_5 hl1_5 hm1_5 hf1_4
      have r0 : wr.cell? ⟨g, i * 13, none⟩ = some (.int .i64 f0) := HX.out.cell HSZ.out (j := 0) rfl rfl
      have q0 : wr.frozen? ⟨g, i * 13, none⟩ = false := HX.out.frozen _
      have r1 : wr.cell? ⟨g, i * 13 + 1, none⟩ = some (.int .i64 f1_0) := HX.out.cell HSZ.out (j := 1) rfl rfl
      have q1 : wr.frozen? ⟨g, i * 13 + 1, none⟩ = false := HX.out.frozen _
      have r2 : wr.cell? ⟨g, i * 13 + 2, none⟩ = some (.int .i64 f1_1) := HX.out.cell HSZ.out (j := 2) rfl rfl
      have q2 : wr.frozen? ⟨g, i * 13 + 2, none⟩ = false := HX.out.frozen _
      have r3 : wr.cell? ⟨g, i * 13 + 3, none⟩ = some (.int .i64 f1_2) := HX.out.cell HSZ.out (j := 3) rfl rfl
      have q3 : wr.frozen? ⟨g, i * 13 + 3, none⟩ = false := HX.out.frozen _
      have r4 : wr.cell? ⟨g, i * 13 + 4, none⟩ = some (.int .i64 f1_3) := HX.out.cell HSZ.out (j := 4) rfl rfl
      have q4 : wr.frozen? ⟨g, i * 13 + 4, none⟩ = false := HX.out.frozen _
      go_wp2_with fail
      refine (markTextZ _ _ (by have hz := HYZ.out; omega) (by have hz := HYZ.out; omega)).mono ?_
      rintro e w1 ⟨rfl, hb⟩
      have HX' := Lib.hid ((((((HX.out.store HSZ.out HBg.out HRg.out (j := 0) (by simp) rfl (.int .i64 (y))).store HSZ.out HBg.out HRg.out (j := 1) (by simp) rfl (.int .i64 (y + 1))).store HSZ.out HBg.out HRg.out (j := 2) (by simp) rfl (.int .i64 (y + 1 + 1))).store HSZ.out HBg.out HRg.out (j := 3) (by simp) rfl (.int .i64 (y + 1 + 1 + 1))).store HSZ.out HBg.out HRg.out (j := 4) (by simp) rfl (.int .i64 (y + 1 + 1 + 1 + 1))).below hb)
      replace HO1_5 := Lib.hid ((((((HO1_5.out.far (p := i * 13) (v := .int .i64 (y)) HG1_5.out).far (p := i * 13 + 1) (v := .int .i64 (y + 1)) HG1_5.out).far (p := i * 13 + 2) (v := .int .i64 (y + 1 + 1)) HG1_5.out).far (p := i * 13 + 3) (v := .int .i64 (y + 1 + 1 + 1)) HG1_5.out).far (p := i * 13 + 4) (v := .int .i64 (y + 1 + 1 + 1 + 1)) HG1_5.out).below hb)
      replace HX := HX'
      clear hb HX' r0 q0 r1 q1 r2 q2 r3 q3 r4 q4
      have r5 : w1.cell? ⟨g, i * 13 + 5, none⟩ = some (.string f1_4) := HX.out.cell HSZ.out (j := 5) rfl rfl
      have q5 : w1.frozen? ⟨g, i * 13 + 5, none⟩ = false := HX.out.frozen _
      have r6 : w1.cell? ⟨g, i * 13 + 6, none⟩ = some (.slice A1_5 n1_5 c1_5) := HX.out.cell HSZ.out (j := 6) rfl rfl
      have q6 : w1.frozen? ⟨g, i * 13 + 6, none⟩ = false := HX.out.frozen _
      go_wp2_with fail
      refine (markWireS L1_5 A1_5 n1_5 c1_5 _ P1_5 _ (HO1_5.out.far (p := i * 13 + 5) (v := .string (mtext (y + 1 + 1 + 1 + 1 + 1).toNat)) HG1_5.out) HT1_5.out (by have hz := HYZ.out; omega) (by have hz := HYZ.out; omega) hn1_5).mono ?_
      rintro e w2 ⟨rfl, hO1_5, hT9⟩
      have HX' := Lib.hid ((HX.out.store HSZ.out HBg.out HRg.out (j := 5) (by simp) rfl (.string (mtext (y + 1 + 1 + 1 + 1 + 1).toNat))).touch hT9 HP1_5.out)
      replace HO1_5 := Lib.hid hO1_5
      replace HX := HX'
      clear hT9 hO1_5 HX' r5 q5 r6 q6
      obtain ⟨y1, hy1⟩ : ∃ u : Int, u = y + 1 + 1 + 1 + 1 + 1 + 1 + cntAll L1_5 := ⟨_, rfl⟩
      rw [← hy1]
      have HY1 := Lib.hid hy1
      have hp1 : 0 < y1 := by omega
      have hq1 : y1 + 6 ≤ 1099511627776 := by have hz := HYZ.out; omega
      clear hy1
      have r7 : w2.cell? ⟨g, i * 13 + 7, none⟩ = some (.int .i64 f1_6_0) := HX.out.cell HSZ.out (j := 7) rfl rfl
      have q7 : w2.frozen? ⟨g, i * 13 + 7, none⟩ = false := HX.out.frozen _
      have r8 : w2.cell? ⟨g, i * 13 + 8, none⟩ = some (.int .i64 f1_6_1) := HX.out.cell HSZ.out (j := 8) rfl rfl
      have q8 : w2.frozen? ⟨g, i * 13 + 8, none⟩ = false := HX.out.frozen _
      have r9 : w2.cell? ⟨g, i * 13 + 9, none⟩ = some (.int .i64 f1_7) := HX.out.cell HSZ.out (j := 9) rfl rfl
      have q9 : w2.frozen? ⟨g, i * 13 + 9, none⟩ = false := HX.out.frozen _
      have r10 : w2.cell? ⟨g, i * 13 + 10, none⟩ = some (.int .i64 f1_8_0) := HX.out.cell HSZ.out (j := 10) rfl rfl
      have q10 : w2.frozen? ⟨g, i * 13 + 10, none⟩ = false := HX.out.frozen _
      have r11 : w2.cell? ⟨g, i * 13 + 11, none⟩ = some (.int .i64 f1_8_1) := HX.out.cell HSZ.out (j := 11) rfl rfl
      have q11 : w2.frozen? ⟨g, i * 13 + 11, none⟩ = false := HX.out.frozen _
      have r12 : w2.cell? ⟨g, i * 13 + 12, none⟩ = some (.int .i64 f1_8_2) := HX.out.cell HSZ.out (j := 12) rfl rfl
      have q12 : w2.frozen? ⟨g, i * 13 + 12, none⟩ = false := HX.out.frozen _
      go_wp2_with fail
      go_roundw
      case rel =>
        have X9 := ((((((HX.out.store HSZ.out HBg.out HRg.out (j := 7) (by simp) rfl (.int .i64 (y1))).store HSZ.out HBg.out HRg.out (j := 8) (by simp) rfl (.int .i64 (y1 + 1))).store HSZ.out HBg.out HRg.out (j := 9) (by simp) rfl (.int .i64 (y1 + 1 + 1))).store HSZ.out HBg.out HRg.out (j := 10) (by simp) rfl (.int .i64 (y1 + 1 + 1 + 1))).store HSZ.out HBg.out HRg.out (j := 11) (by simp) rfl (.int .i64 (y1 + 1 + 1 + 1 + 1))).store HSZ.out HBg.out HRg.out (j := 12) (by simp) rfl (.int .i64 (y1 + 1 + 1 + 1 + 1 + 1)))
        have O1_5 := ((((((HO1_5.out.far (p := i * 13 + 7) (v := .int .i64 (y1)) HG1_5.out).far (p := i * 13 + 8) (v := .int .i64 (y1 + 1)) HG1_5.out).far (p := i * 13 + 9) (v := .int .i64 (y1 + 1 + 1)) HG1_5.out).far (p := i * 13 + 10) (v := .int .i64 (y1 + 1 + 1 + 1)) HG1_5.out).far (p := i * 13 + 11) (v := .int .i64 (y1 + 1 + 1 + 1 + 1)) HG1_5.out).far (p := i * 13 + 12) (v := .int .i64 (y1 + 1 + 1 + 1 + 1 + 1)) HG1_5.out)
        obtain ⟨cur9, c9, l9⟩ := X9.c
        refine ⟨i + 1, _, by omega, by go_num, rfl, ?_, ?_, HTo.out.trans X9.t⟩
        · have h1 := HY.out
          have h2 := HCN.out
          have eHY1 := HY1.out; omega
        · rw [← half_set HZ.out, ← HY.out, mkdOutgoing]
          have eHY1 := HY1.out; skip
          refine (HPUT.out _ _ _ (fun b => (P1_5 b ∨ False) ∨ False) cur9 rfl ?_ (fun b hb => ?_) c9 l9 X9.r).mono (fun b hb => ?_)
          · refine Eq.mp (congrArg (fun cs => Owns _ _ cs _) ?_) (ownPOutgoing (f0 := y) (f1_0 := y + 1) (f1_1 := y + 2) (f1_2 := y + 3) (f1_3 := y + 4) (f1_4 := mtext (y + 5).toNat) (L1_5 := mkAll L1_5 (y + 6)) (f1_6_0 := y + 6 + cntAll L1_5) (f1_6_1 := y + 7 + cntAll L1_5) (f1_7 := y + 8 + cntAll L1_5) (f1_8_0 := y + 9 + cntAll L1_5) (f1_8_1 := y + 10 + cntAll L1_5) (f1_8_2 := y + 11 + cntAll L1_5) (show Owns _ (.l (mkAll L1_5 (y + 6))) _ _ from Eq.mp (congrArg (fun u : Int => Owns _ (.l (mkAll L1_5 u)) _ _) (by omega)) O1_5) )
            simp only [List.set]
            exact (cons_eq (congrArg (Value.int .i64) (by omega)) (cons_eq (congrArg (Value.int .i64) (by omega)) (cons_eq (congrArg (Value.int .i64) (by omega)) (cons_eq (congrArg (Value.int .i64) (by omega)) (cons_eq (congrArg (Value.int .i64) (by omega)) (cons_eq (congrArg (fun u : Int => Value.string (mtext u.toNat)) (by omega)) (cons_eq rfl (cons_eq (congrArg (Value.int .i64) (by omega)) (cons_eq (congrArg (Value.int .i64) (by omega)) (cons_eq (congrArg (Value.int .i64) (by omega)) (cons_eq (congrArg (Value.int .i64) (by omega)) (cons_eq (congrArg (Value.int .i64) (by omega)) (cons_eq (congrArg (Value.int .i64) (by omega)) rfl)))))))))))))
          · exact (HP1_5.out b (hb.elim (fun h => h.elim id False.elim) False.elim)).2
          · exact hb.elim (fun h => h ▸ HBg.out) (fun h => h.elim (fun h => (HBR.out b h).1) (fun h => (HP1_5.out b (h.elim (fun h => h.elim id False.elim) False.elim)).1))
      case measure => simp [intOf]; omega
    · obtain rfl : i = n := by omega
      have HM : Hid (MarkedD L A i c z B w (.returned (.int .i64 y)) wr) := Lib.hid ⟨by rw [HY.out, List.take_of_length_le (by have := HC.out; omega)], by rw [half_all HC.out] at hO; exact hO, HTo.out⟩
      clear hO
      go_wp2_with fail
      go_ret
      exact HM.out
set_option maxRecDepth 100000 in
set_option maxHeartbeats 8000000 in
theorem heldOutgoingS (L : List Dat) (A : Option Addr) (n c : Nat) (z : Int) (w : World) (h : Lies w (.l (mkAll L z)) [.slice A n c]) (ht : ∀ x ∈ L, Has tyOutgoing x) (h0 : 0 < z) (h1 : z + cntAll L ≤ 1099511627776) (hn : n ≤ 1099511627776) :
    Calls Try.prog 84 #[.slice A n c, .int .i64 z] w (GivesInt (z + cntAll L) w) := by
  have HT := Lib.hid ht
  have hc := h.count
  rw [mkAll_len] at hc
  have HC := Lib.hid hc
  have H := Lib.hid h
  have H1 := Lib.hid h1
  have hk : ∀ x ∈ mkAll L z, x.width = 13 := fun x hx => by
    obtain ⟨j, hj, rfl⟩ := List.getElem_of_mem hx
    have hjl : j < L.length := by rw [mkAll_len] at hj; exact hj
    have e := mkAll_at (z := z) (List.getElem?_eq_getElem hjl)
    rw [List.getElem?_eq_getElem hj] at e
    rw [Option.some.inj e, mkd_width]
    exact (ht _ (List.getElem_mem hjl)).width
  have HK := Lib.hid hk
  clear h ht h1 hc hk
  go_enter Try.func84, Try.ntmps84
  go_wp2
  go_loopw [1, 5] (fun zv iv wr => ∃ (i : Nat) (y : Int), i ≤ n ∧ iv = .int .i64 i ∧ zv = .int .i64 y ∧ y = z + cntAll (L.take i) ∧ Below w.heap.size w wr) (fun _ iv _ => n - (intOf iv).toNat)
  case atStart => exact ⟨0, z, Nat.zero_le _, rfl, rfl, by simp [cntAll], Below.refl _ _⟩
  case round =>
    obtain ⟨i, y, hin, rfl, rfl, hy, hb⟩ := hrel
    have HY := Lib.hid hy
    have HB := Lib.hid hb
    clear hy hb
    by_cases hlt : i < n
    · have hzi : L[i]? = some (L[i]'(by have := HC.out; omega)) := List.getElem?_eq_getElem (by have := HC.out; omega)
      generalize L[i]'(by have := HC.out; omega) = d at hzi
      obtain ⟨b, off, d', xs, rfl, hbw, hdi, hlie, hlen, hcell⟩ := (H.out.below HB.out).elem HK.out hlt
      obtain rfl : mkd d (z + cntAll (L.take i)) = d' := by rw [mkAll_at hzi] at hdi; exact Option.some.inj hdi
      rw [← HY.out] at hlie
      obtain ⟨ds, rfl, hds⟩ := HT.out d (List.mem_of_getElem? hzi)
      simp only [HasAll] at hds
      obtain ⟨d0, r0, rfl, ⟨f0, rfl, -, -⟩, d1, r1, rfl, ⟨ds1, rfl, d1_0, r1_0, rfl, ⟨f1_0, rfl, -, -⟩, d1_1, r1_1, rfl, ⟨f1_1, rfl, -, -⟩, d1_2, r1_2, rfl, ⟨f1_2, rfl, -, -⟩, d1_3, r1_3, rfl, ⟨f1_3, rfl, -, -⟩, d1_4, r1_4, rfl, ⟨f1_4, rfl, hf1_4⟩, d1_5, r1_5, rfl, ⟨L1_5, rfl, hm1_5, ht1_5⟩, d1_6, r1_6, rfl, ⟨ds1_6, rfl, d1_6_0, r1_6_0, rfl, ⟨f1_6_0, rfl, -, -⟩, d1_6_1, r1_6_1, rfl, ⟨f1_6_1, rfl, -, -⟩, rfl⟩, d1_7, r1_7, rfl, ⟨f1_7, rfl, -, -⟩, d1_8, r1_8, rfl, ⟨ds1_8, rfl, d1_8_0, r1_8_0, rfl, ⟨f1_8_0, rfl, -, -⟩, d1_8_1, r1_8_1, rfl, ⟨f1_8_1, rfl, -, -⟩, d1_8_2, r1_8_2, rfl, ⟨f1_8_2, rfl, -, -⟩, rfl⟩, rfl⟩, rfl⟩ := hds
      rw [mkdOutgoing] at hlie
      simp only [Lies, LiesAll] at hlie
      obtain ⟨e0, q0, rfl, rfl, e1, q1, rfl, ⟨e1_0, q1_0, rfl, rfl, e1_1, q1_1, rfl, rfl, e1_2, q1_2, rfl, rfl, e1_3, q1_3, rfl, rfl, e1_4, q1_4, rfl, rfl, e1_5, q1_5, rfl, ⟨A1_5, m1_5, c1_5, rfl, hn1_5, hh1_5⟩, e1_6, q1_6, rfl, ⟨e1_6_0, q1_6_0, rfl, rfl, e1_6_1, q1_6_1, rfl, rfl, rfl⟩, e1_7, q1_7, rfl, rfl, e1_8, q1_8, rfl, ⟨e1_8_0, q1_8_0, rfl, rfl, e1_8_1, q1_8_1, rfl, rfl, e1_8_2, q1_8_2, rfl, rfl, rfl⟩, rfl⟩, rfl⟩ := hlie
      have hcn : (cntAll (L.take (i + 1)) : Int) = cntAll (L.take i) + (0 + 12 + cntAll L1_5) := by rw [← cntOutgoing (f0 := f0) (f1_0 := f1_0) (f1_1 := f1_1) (f1_2 := f1_2) (f1_3 := f1_3) (f1_4 := f1_4) (L1_5 := L1_5) (f1_6_0 := f1_6_0) (f1_6_1 := f1_6_1) (f1_7 := f1_7) (f1_8_0 := f1_8_0) (f1_8_1 := f1_8_1) (f1_8_2 := f1_8_2)]; have := cnt_next hzi; omega
      have hcl := cnt_take_le L (i + 1)
      have hyz : y + 12 + cntAll L1_5 ≤ 1099511627776 := by have h1 := HY.out; have h2 := H1.out; omega
      have hy0 : 0 < y := by have := HY.out; omega
      have hyt : y + 12 ≤ 1099511627776 := by omega
      have HL1_5 : Hid (Lies wr (.l (mkAll L1_5 (y + 6))) [.slice A1_5 m1_5 c1_5]) := Lib.hid (by rw [Lies]; exact ⟨A1_5, m1_5, c1_5, rfl, hn1_5, hh1_5⟩)
      have hu1_5 : m1_5 ≤ 1099511627776 := by have h1 := len_le_cntD (fun x hx => cntposWire (ht1_5 x hx)); rw [mkAll_len] at hn1_5; omega
      have HT1_5 := Lib.hid ht1_5
      have s0 : wr.cell? ⟨b, off + i * 13, none⟩ = some (.int .i64 (y)) := hcell 0 _ rfl
      have s1 : wr.cell? ⟨b, off + i * 13 + 1, none⟩ = some (.int .i64 (y + 1)) := hcell 1 _ rfl
      have s2 : wr.cell? ⟨b, off + i * 13 + 2, none⟩ = some (.int .i64 (y + 2)) := hcell 2 _ rfl
      have s3 : wr.cell? ⟨b, off + i * 13 + 3, none⟩ = some (.int .i64 (y + 3)) := hcell 3 _ rfl
      have s4 : wr.cell? ⟨b, off + i * 13 + 4, none⟩ = some (.int .i64 (y + 4)) := hcell 4 _ rfl
      have s5 : wr.cell? ⟨b, off + i * 13 + 5, none⟩ = some (.string (mtext (y + 5).toNat)) := hcell 5 _ rfl
      have s6 : wr.cell? ⟨b, off + i * 13 + 6, none⟩ = some (.slice A1_5 m1_5 c1_5) := hcell 6 _ rfl
      have s7 : wr.cell? ⟨b, off + i * 13 + 7, none⟩ = some (.int .i64 (y + 6 + cntAll L1_5)) := hcell 7 _ rfl
      have s8 : wr.cell? ⟨b, off + i * 13 + 8, none⟩ = some (.int .i64 (y + 7 + cntAll L1_5)) := hcell 8 _ rfl
      have s9 : wr.cell? ⟨b, off + i * 13 + 9, none⟩ = some (.int .i64 (y + 8 + cntAll L1_5)) := hcell 9 _ rfl
      have s10 : wr.cell? ⟨b, off + i * 13 + 10, none⟩ = some (.int .i64 (y + 9 + cntAll L1_5)) := hcell 10 _ rfl
      have s11 : wr.cell? ⟨b, off + i * 13 + 11, none⟩ = some (.int .i64 (y + 10 + cntAll L1_5)) := hcell 11 _ rfl
      have s12 : wr.cell? ⟨b, off + i * 13 + 12, none⟩ = some (.int .i64 (y + 11 + cntAll L1_5)) := hcell 12 _ rfl
      have HCN := Lib.hid hcn
      have HYZ := Lib.hid hyz
      have HS : Hid (wr.cell? ⟨b, off + i * 13, none⟩ = some (.int .i64 (y)) ∧ wr.cell? ⟨b, off + i * 13 + 1, none⟩ = some (.int .i64 (y + 1)) ∧ wr.cell? ⟨b, off + i * 13 + 2, none⟩ = some (.int .i64 (y + 2)) ∧ wr.cell? ⟨b, off + i * 13 + 3, none⟩ = some (.int .i64 (y + 3)) ∧ wr.cell? ⟨b, off + i * 13 + 4, none⟩ = some (.int .i64 (y + 4)) ∧ wr.cell? ⟨b, off + i * 13 + 5, none⟩ = some (.string (mtext (y + 5).toNat)) ∧ wr.cell? ⟨b, off + i * 13 + 6, none⟩ = some (.slice A1_5 m1_5 c1_5) ∧ wr.cell? ⟨b, off + i * 13 + 7, none⟩ = some (.int .i64 (y + 6 + cntAll L1_5)) ∧ wr.cell? ⟨b, off + i * 13 + 8, none⟩ = some (.int .i64 (y + 7 + cntAll L1_5)) ∧ wr.cell? ⟨b, off + i * 13 + 9, none⟩ = some (.int .i64 (y + 8 + cntAll L1_5)) ∧ wr.cell? ⟨b, off + i * 13 + 10, none⟩ = some (.int .i64 (y + 9 + cntAll L1_5)) ∧ wr.cell? ⟨b, off + i * 13 + 11, none⟩ = some (.int .i64 (y + 10 + cntAll L1_5)) ∧ wr.cell? ⟨b, off + i * 13 + 12, none⟩ = some (.int .i64 (y + 11 + cntAll L1_5))) := Lib.hid ⟨s0, s1, s2, s3, s4, s5, s6, s7, s8, s9, s10, s11, s12⟩
      have HBW := Lib.hid hbw
      clear hcn hzi hdi hlen hcell hyz s0 s1 s2 s3 s4 s5 s6 s7 s8 s9 s10 s11 s12 ht1_5 hm1_5 hn1_5 hh1_5 hf1_4
      have HQ : Hid (Below wr.heap.size wr wr) := Lib.hid (Below.refl _ _)
      have r0 : wr.cell? ⟨b, off + i * 13, none⟩ = some (.int .i64 (y)) := by rw [show y = y by omega]; exact (HQ.out.cell (p := ⟨b, off + i * 13, none⟩) HBW.out).trans HS.out.1
      have r1 : wr.cell? ⟨b, off + i * 13 + 1, none⟩ = some (.int .i64 (y + 1)) := by rw [show y + 1 = y + 1 by omega]; exact (HQ.out.cell (p := ⟨b, off + i * 13 + 1, none⟩) HBW.out).trans HS.out.2.1
      have r2 : wr.cell? ⟨b, off + i * 13 + 2, none⟩ = some (.int .i64 (y + 1 + 1)) := by rw [show y + 1 + 1 = y + 2 by omega]; exact (HQ.out.cell (p := ⟨b, off + i * 13 + 2, none⟩) HBW.out).trans HS.out.2.2.1
      have r3 : wr.cell? ⟨b, off + i * 13 + 3, none⟩ = some (.int .i64 (y + 1 + 1 + 1)) := by rw [show y + 1 + 1 + 1 = y + 3 by omega]; exact (HQ.out.cell (p := ⟨b, off + i * 13 + 3, none⟩) HBW.out).trans HS.out.2.2.2.1
      have r4 : wr.cell? ⟨b, off + i * 13 + 4, none⟩ = some (.int .i64 (y + 1 + 1 + 1 + 1)) := by rw [show y + 1 + 1 + 1 + 1 = y + 4 by omega]; exact (HQ.out.cell (p := ⟨b, off + i * 13 + 4, none⟩) HBW.out).trans HS.out.2.2.2.2.1
      have K0 : Hid (wr.drew.cell? ⟨b, off + i * 13 + 5, none⟩ = some (.string (mtext (y + 1 + 1 + 1 + 1 + 1).toNat))) := Lib.hid (show wr.cell? ⟨b, off + i * 13 + 5, none⟩ = some (.string (mtext (y + 1 + 1 + 1 + 1 + 1).toNat)) by rw [show y + 1 + 1 + 1 + 1 + 1 = y + 5 by omega]; exact (HQ.out.cell (p := ⟨b, off + i * 13 + 5, none⟩) HBW.out).trans HS.out.2.2.2.2.2.1)
      have hbq : b < wr.heap.size := Nat.lt_of_lt_of_le HBW.out HQ.out.size
      go_wp2_with fail
      go_region_held3 (fun w' => w'.cell? ⟨b, off + i * 13 + 5, none⟩ = some (.string (mtext (y + 1 + 1 + 1 + 1 + 1).toNat)))
        (first | exact K0.out | exact K1.out)
        ((go_at_call 138; refine (markTextZ _ _ (by have hz := HYZ.out; omega) (by have hz := HYZ.out; omega)).mono ?_; rintro e w1 ⟨rfl, hb2⟩; have K1 := Lib.hid (show w1.cell? ⟨b, off + i * 13 + 5, none⟩ = some (.string (mtext (y + 1 + 1 + 1 + 1 + 1).toNat)) from (hb2.cell (p := ⟨b, off + i * 13 + 5, none⟩) (by show b < wr.drew.heap.size; exact hbq)).trans K0.out); have HB3 := Lib.hid (show Below wr.heap.size wr w1 from (Below.refl _ _).drew.trans hb2); replace HQ := Lib.hid (HQ.out.trans (HB3.out.mono HQ.out.size)); clear hb2))
      all_goals (
        have r6 : w1.cell? ⟨b, off + i * 13 + 6, none⟩ = some (.slice A1_5 m1_5 c1_5) := (HQ.out.cell (p := ⟨b, off + i * 13 + 6, none⟩) HBW.out).trans HS.out.2.2.2.2.2.2.1
        go_wp2_with fail
        refine (heldWireS L1_5 A1_5 m1_5 c1_5 _ _ (Eq.mp (congrArg (fun u : Int => Lies _ (.l (mkAll L1_5 u)) _) (by omega)) (HL1_5.out.below HQ.out)) HT1_5.out (by have hz := HYZ.out; omega) (by have hz := HYZ.out; omega) hu1_5).mono ?_
        rintro e w2 ⟨rfl, hb⟩
        replace HQ := Lib.hid (HQ.out.trans (hb.mono HQ.out.size))
        clear hb r6
        obtain ⟨y1, hy1⟩ : ∃ u : Int, u = y + 1 + 1 + 1 + 1 + 1 + 1 + cntAll L1_5 := ⟨_, rfl⟩
        rw [← hy1]
        have HY1 := Lib.hid hy1
        have hp1 : 0 ≤ y1 := by omega
        have hq1 : y1 + 6 ≤ 1099511627776 := by have hz := HYZ.out; omega
        clear hy1
        have r7 : w2.cell? ⟨b, off + i * 13 + 7, none⟩ = some (.int .i64 (y1)) := by have eHY1 := HY1.out; rw [show y1 = y + 6 + cntAll L1_5 by omega]; exact (HQ.out.cell (p := ⟨b, off + i * 13 + 7, none⟩) HBW.out).trans HS.out.2.2.2.2.2.2.2.1
        have r8 : w2.cell? ⟨b, off + i * 13 + 8, none⟩ = some (.int .i64 (y1 + 1)) := by have eHY1 := HY1.out; rw [show y1 + 1 = y + 7 + cntAll L1_5 by omega]; exact (HQ.out.cell (p := ⟨b, off + i * 13 + 8, none⟩) HBW.out).trans HS.out.2.2.2.2.2.2.2.2.1
        have r9 : w2.cell? ⟨b, off + i * 13 + 9, none⟩ = some (.int .i64 (y1 + 1 + 1)) := by have eHY1 := HY1.out; rw [show y1 + 1 + 1 = y + 8 + cntAll L1_5 by omega]; exact (HQ.out.cell (p := ⟨b, off + i * 13 + 9, none⟩) HBW.out).trans HS.out.2.2.2.2.2.2.2.2.2.1
        have r10 : w2.cell? ⟨b, off + i * 13 + 10, none⟩ = some (.int .i64 (y1 + 1 + 1 + 1)) := by have eHY1 := HY1.out; rw [show y1 + 1 + 1 + 1 = y + 9 + cntAll L1_5 by omega]; exact (HQ.out.cell (p := ⟨b, off + i * 13 + 10, none⟩) HBW.out).trans HS.out.2.2.2.2.2.2.2.2.2.2.1
        have r11 : w2.cell? ⟨b, off + i * 13 + 11, none⟩ = some (.int .i64 (y1 + 1 + 1 + 1 + 1)) := by have eHY1 := HY1.out; rw [show y1 + 1 + 1 + 1 + 1 = y + 10 + cntAll L1_5 by omega]; exact (HQ.out.cell (p := ⟨b, off + i * 13 + 11, none⟩) HBW.out).trans HS.out.2.2.2.2.2.2.2.2.2.2.2.1
        have r12 : w2.cell? ⟨b, off + i * 13 + 12, none⟩ = some (.int .i64 (y1 + 1 + 1 + 1 + 1 + 1)) := by have eHY1 := HY1.out; rw [show y1 + 1 + 1 + 1 + 1 + 1 = y + 11 + cntAll L1_5 by omega]; exact (HQ.out.cell (p := ⟨b, off + i * 13 + 12, none⟩) HBW.out).trans HS.out.2.2.2.2.2.2.2.2.2.2.2.2
        go_wp2_with fail
        go_roundw
        case rel =>
          refine ⟨i + 1, _, by omega, by go_num, rfl, ?_, HB.out.trans (HQ.out.mono HB.out.size)⟩
          have h1 := HY.out
          have h2 := HCN.out
          have eHY1 := HY1.out; omega
        case measure => simp [intOf]; omega)
    · obtain rfl : i = n := by omega
      have HE : Hid (y = z + cntAll L) := Lib.hid (by rw [HY.out, List.take_of_length_le (by have := HC.out; omega)])
      go_wp2_with fail
      go_ret
      exact GivesInt.ret HE.out HB.out
end Go.Proofs.Ytmeacgpebpfpbaa
