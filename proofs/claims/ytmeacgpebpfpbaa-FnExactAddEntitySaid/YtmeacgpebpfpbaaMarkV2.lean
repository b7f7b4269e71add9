/- Chapter 12's marks, by program. -/
import Derived.Test.YtmeacgpebpfpbaaMarkV1
import Derived.Deep.RegionHeld3
import Derived.LoopTactic
import Derived.Lib.Hide
import Derived.Deep.QuietTactic
import Derived.BigQuiet
import Derived.Deep.RegionWith
import Derived.Handy
namespace Go.Proofs.Ytmeacgpebpfpbaa
open Go.RowKit
set_option linter.unusedVariables false
set_option linter.unusedSimpArgs false
theorem mkdEntity {f0 : Int} { f1 : Int} { L2 : List Dat} { f3 : Int} { f4_0 : Int} { f4_1 : Int} { L5 : List Dat} { L6 : List Dat} { f7 : Int} { f8 : Int} { f9 : Int} { f10 : Int} (y : Int) : mkd (.r [.i f0, .i f1, .l L2, .i f3, .r [.i f4_0, .i f4_1], .l L5, .l L6, .i f7, .i f8, .i f9, .i f10]) y = .r [.i (y), .i (y + 1), .l (mkAll L2 (y + 2)), .i (y + 2 + cntAll L2), .r [.i (y + 3 + cntAll L2), .i (y + 4 + cntAll L2)], .l (mkAll L5 (y + 5 + cntAll L2)), .l (mkAll L6 (y + 5 + cntAll L2 + cntAll L5)), .i (y + 5 + cntAll L2 + cntAll L5 + cntAll L6), .i (y + 6 + cntAll L2 + cntAll L5 + cntAll L6), .i (y + 7 + cntAll L2 + cntAll L5 + cntAll L6), .i (y + 8 + cntAll L2 + cntAll L5 + cntAll L6)] := by
  simp only [mkd, mkAll, Dat.cnt, cntAll]
  exact congrArg Dat.r (cons_eq (congrArg Dat.i (by omega)) (cons_eq (congrArg Dat.i (by omega)) (cons_eq (congrArg (fun z : Int => Dat.l (mkAll L2 z)) (by omega)) (cons_eq (congrArg Dat.i (by omega)) (cons_eq (congrArg Dat.r (cons_eq (congrArg Dat.i (by omega)) (cons_eq (congrArg Dat.i (by omega)) rfl))) (cons_eq (congrArg (fun z : Int => Dat.l (mkAll L5 z)) (by omega)) (cons_eq (congrArg (fun z : Int => Dat.l (mkAll L6 z)) (by omega)) (cons_eq (congrArg Dat.i (by omega)) (cons_eq (congrArg Dat.i (by omega)) (cons_eq (congrArg Dat.i (by omega)) (cons_eq (congrArg Dat.i (by omega)) rfl)))))))))))
theorem cntEntity {f0 : Int} { f1 : Int} { L2 : List Dat} { f3 : Int} { f4_0 : Int} { f4_1 : Int} { L5 : List Dat} { L6 : List Dat} { f7 : Int} { f8 : Int} { f9 : Int} { f10 : Int} : ((.r [.i f0, .i f1, .l L2, .i f3, .r [.i f4_0, .i f4_1], .l L5, .l L6, .i f7, .i f8, .i f9, .i f10] : Dat).cnt : Int) = 0 + 9 + cntAll L2 + cntAll L5 + cntAll L6 := by
  simp only [Dat.cnt, cntAll]
  omega
theorem partEntity {w : World} {B : Nat → Prop} {f0 : Int} {f1 : Int} {L2 : List Dat} {A2 : Option Addr} {n2 c2 : Nat} {f3 : Int} {f4_0 : Int} {f4_1 : Int} {L5 : List Dat} {A5 : Option Addr} {n5 c5 : Nat} {L6 : List Dat} {A6 : Option Addr} {n6 c6 : Nat} {f7 : Int} {f8 : Int} {f9 : Int} {f10 : Int} (h : Owns w (.r [.i f0, .i f1, .l L2, .i f3, .r [.i f4_0, .i f4_1], .l L5, .l L6, .i f7, .i f8, .i f9, .i f10]) [.int .i64 f0, .int .i64 f1, .slice A2 n2 c2, .int .i64 f3, .int .i64 f4_0, .int .i64 f4_1, .slice A5 n5 c5, .slice A6 n6 c6, .int .i64 f7, .int .i64 f8, .int .i64 f9, .int .i64 f10] B) : ∃ P2 P5 P6 : Nat → Prop, Owns w (.l L2) [.slice A2 n2 c2] P2 ∧ Owns w (.l L5) [.slice A5 n5 c5] P5 ∧ Owns w (.l L6) [.slice A6 n6 c6] P6 ∧ (∀ b, P2 b → B b) ∧ (∀ b, P5 b → B b) ∧ (∀ b, P6 b → B b) ∧ (∀ b, P2 b → ¬ P5 b) ∧ (∀ b, P2 b → ¬ P6 b) ∧ (∀ b, P5 b → ¬ P6 b) := by
  rw [Owns] at h
  obtain ⟨R0, Q0, g0, h, p0, q0, d0⟩ := OwnsAll.cut (c1 := [.int .i64 f0]) h rfl
  obtain ⟨R1, Q1, g1, h, p1, q1, d1⟩ := OwnsAll.cut (c1 := [.int .i64 f1]) h rfl
  obtain ⟨R2, Q2, g2, h, p2, q2, d2⟩ := OwnsAll.cut (c1 := [.slice A2 n2 c2]) h rfl
  obtain ⟨R3, Q3, g3, h, p3, q3, d3⟩ := OwnsAll.cut (c1 := [.int .i64 f3]) h rfl
  obtain ⟨R4, Q4, g4, h, p4, q4, d4⟩ := OwnsAll.cut (c1 := [.int .i64 f4_0, .int .i64 f4_1]) h rfl
  obtain ⟨R5, Q5, g5, h, p5, q5, d5⟩ := OwnsAll.cut (c1 := [.slice A5 n5 c5]) h rfl
  obtain ⟨R6, Q6, g6, h, p6, q6, d6⟩ := OwnsAll.cut (c1 := [.slice A6 n6 c6]) h rfl
  obtain ⟨R7, Q7, g7, h, p7, q7, d7⟩ := OwnsAll.cut (c1 := [.int .i64 f7]) h rfl
  obtain ⟨R8, Q8, g8, h, p8, q8, d8⟩ := OwnsAll.cut (c1 := [.int .i64 f8]) h rfl
  obtain ⟨R9, Q9, g9, h, p9, q9, d9⟩ := OwnsAll.cut (c1 := [.int .i64 f9]) h rfl
  obtain ⟨R10, Q10, g10, h, p10, q10, d10⟩ := OwnsAll.cut (c1 := [.int .i64 f10]) h rfl
  exact ⟨R2, R5, R6, g2, g5, g6, fun b hb => (q0 b (q1 b (p2 b hb))), fun b hb => (q0 b (q1 b (q2 b (q3 b (q4 b (p5 b hb)))))), fun b hb => (q0 b (q1 b (q2 b (q3 b (q4 b (q5 b (p6 b hb))))))), fun b ha hb => d2 b ha (q3 b (q4 b (p5 b hb))), fun b ha hb => d2 b ha (q3 b (q4 b (q5 b (p6 b hb)))), fun b ha hb => d5 b ha (p6 b hb)⟩
theorem ownPEntity {w : World} {P2 P5 P6 : Nat → Prop} {f0 : Int} {f1 : Int} {L2 : List Dat} {A2 : Option Addr} {n2 c2 : Nat} {f3 : Int} {f4_0 : Int} {f4_1 : Int} {L5 : List Dat} {A5 : Option Addr} {n5 c5 : Nat} {L6 : List Dat} {A6 : Option Addr} {n6 c6 : Nat} {f7 : Int} {f8 : Int} {f9 : Int} {f10 : Int} (hO2 : Owns w (.l L2) [.slice A2 n2 c2] P2) (hO5 : Owns w (.l L5) [.slice A5 n5 c5] P5) (hO6 : Owns w (.l L6) [.slice A6 n6 c6] P6) (hd2x5 : ∀ b, P2 b → ¬ P5 b) (hd2x6 : ∀ b, P2 b → ¬ P6 b) (hd5x6 : ∀ b, P5 b → ¬ P6 b) : Owns w (.r [.i f0, .i f1, .l L2, .i f3, .r [.i f4_0, .i f4_1], .l L5, .l L6, .i f7, .i f8, .i f9, .i f10]) [.int .i64 f0, .int .i64 f1, .slice A2 n2 c2, .int .i64 f3, .int .i64 f4_0, .int .i64 f4_1, .slice A5 n5 c5, .slice A6 n6 c6, .int .i64 f7, .int .i64 f8, .int .i64 f9, .int .i64 f10] (fun b => P2 b ∨ P5 b ∨ P6 b ∨ False) := by
  rw [Owns]
  exact (OwnsAll.consF (c1 := [.int .i64 f0]) (d := .i f0) rfl (OwnsAll.consF (c1 := [.int .i64 f1]) (d := .i f1) rfl (OwnsAll.consP hO2 (OwnsAll.consF (c1 := [.int .i64 f3]) (d := .i f3) rfl (OwnsAll.consF (c1 := [.int .i64 f4_0, .int .i64 f4_1]) (d := .r [.i f4_0, .i f4_1]) (OwnsAll.consF (c1 := [.int .i64 f4_0]) (d := .i f4_0) rfl (OwnsAll.consF (c1 := [.int .i64 f4_1]) (d := .i f4_1) rfl (OwnsAll.nil_ _ _))) (OwnsAll.consP hO5 (OwnsAll.consP hO6 (OwnsAll.consF (c1 := [.int .i64 f7]) (d := .i f7) rfl (OwnsAll.consF (c1 := [.int .i64 f8]) (d := .i f8) rfl (OwnsAll.consF (c1 := [.int .i64 f9]) (d := .i f9) rfl (OwnsAll.consF (c1 := [.int .i64 f10]) (d := .i f10) rfl (OwnsAll.nil_ _ (fun _ => False)))))) (fun b ha hb => hb.elim)) (fun b ha hb => by rcases hb with hb | hb <;> first | exact hd5x6 b ha hb | exact hb)))) (fun b ha hb => by rcases hb with hb | hb | hb <;> first | exact hd2x5 b ha hb | exact hd2x6 b ha hb | exact hb))))
set_option maxRecDepth 100000 in
set_option maxHeartbeats 8000000 in
theorem markEntityS (L : List Dat) (A : Option Addr) (n c : Nat) (z : Int) (B : Nat → Prop) (w : World) (h : Owns w (.l L) [.slice A n c] B) (ht : ∀ x ∈ L, Has tyEntity x) (h0 : 0 < z) (h1 : z + cntAll L ≤ 1099511627776) (hn : n ≤ 1099511627776) :
    Calls Try.prog 77 #[.slice A n c, .int .i64 z] w (MarkedD L A n c z B w) := by
  have HT := Lib.hid ht
  have HC := Lib.hid h.lies.count
  have H := Lib.hid h
  have H1 := Lib.hid h1
  clear h ht h1
  go_enter Try.func77, Try.ntmps77
  go_wp2
  go_loopw [1, 5] (fun zv iv wr => ∃ (i : Nat) (y : Int), i ≤ n ∧ iv = .int .i64 i ∧ zv = .int .i64 y ∧ y = z + cntAll (L.take i) ∧ Owns wr (.l (half L z i)) [.slice A n c] B ∧ Touch B w wr) (fun _ iv _ => n - (intOf iv).toNat)
  case atStart => exact ⟨0, z, Nat.zero_le _, rfl, rfl, by simp [cntAll], by rw [half_zero]; exact H.out, Touch.refl _ _⟩
  case round =>
    obtain ⟨i, y, hin, rfl, rfl, hy, hO, hT⟩ := hrel
    have HY := Lib.hid hy
    have HTo := Lib.hid hT
    clear hy hT
    by_cases hlt : i < n
    · have hzi : L[i]? = some (L[i]'(by have := HC.out; omega)) := List.getElem?_eq_getElem (by have := HC.out; omega)
      generalize L[i]'(by have := HC.out; omega) = d at hzi
      obtain ⟨g, E, cur, d', xs, Bi, Br, rfl, hBg, hh, hdi, hOd, hlen, hBi, hBr, hcell, hfr, hsz, hput⟩ := hO.focus (k := 12) (half_width (fun x hx => (HT.out x hx).width)) hlt
      obtain rfl : d = d' := by rw [half_at hzi] at hdi; exact Option.some.inj hdi
      obtain ⟨f0, f1, L2, A2, n2, c2, f3, f4_0, f4_1, L5, A5, n5, c5, L6, A6, n6, c6, f7, f8, f9, f10, rfl, rfl, hl2, ht2, hm2, hl5, ht5, hm5, hl6, ht6, hm6⟩ := invEntity (HT.out d (List.mem_of_getElem? hzi)) hOd.lies
      obtain ⟨P2, P5, P6, hO2, hO5, hO6, hp2, hp5, hp6, hd2x5, hd2x6, hd5x6⟩ := partEntity hOd
      have hcn : (cntAll (L.take (i + 1)) : Int) = cntAll (L.take i) + (0 + 9 + cntAll L2 + cntAll L5 + cntAll L6) := by rw [← cntEntity (f0 := f0) (f1 := f1) (L2 := L2) (f3 := f3) (f4_0 := f4_0) (f4_1 := f4_1) (L5 := L5) (L6 := L6) (f7 := f7) (f8 := f8) (f9 := f9) (f10 := f10)]; have := cnt_next hzi; omega
      have hcl := cnt_take_le L (i + 1)
      have hyz : y + 9 + cntAll L2 + cntAll L5 + cntAll L6 ≤ 1099511627776 := by have h1 := HY.out; have h2 := H1.out; omega
      have hy0 : 0 < y := by have := HY.out; omega
      have hyt : y + 9 ≤ 1099511627776 := by omega
      have hn2 : n2 ≤ 1099511627776 := by have h1 := len_le_cntD (fun x hx => cntposValue (ht2 x hx)); have h2 := hl2.count; omega
      have hP2 : ∀ b, P2 b → B b ∧ b ≠ g ∧ ¬ Br b := fun b hb => hBi b (hp2 b hb)
      have hn5 : n5 ≤ 1099511627776 := by have h1 := len_le_cntD (fun x hx => cntposSent (ht5 x hx)); have h2 := hl5.count; omega
      have hP5 : ∀ b, P5 b → B b ∧ b ≠ g ∧ ¬ Br b := fun b hb => hBi b (hp5 b hb)
      have hn6 : n6 ≤ 1099511627776 := by have h1 := len_le_cntD (fun x hx => cntposAsker (ht6 x hx)); have h2 := hl6.count; omega
      have hP6 : ∀ b, P6 b → B b ∧ b ≠ g ∧ ¬ Br b := fun b hb => hBi b (hp6 b hb)
      have HX := Lib.hid (El.start (B := B) (Br := Br) (W := wr) (g := g) (o := i * 12) (xs := [.int .i64 f0, .int .i64 f1, .slice A2 n2 c2, .int .i64 f3, .int .i64 f4_0, .int .i64 f4_1, .slice A5 n5 c5, .slice A6 n6 c6, .int .i64 f7, .int .i64 f8, .int .i64 f9, .int .i64 f10]) hh hsz hcell)
      have HO2 := Lib.hid hO2
      have HT2 := Lib.hid ht2
      have HP2 := Lib.hid hP2
      have HG2 : Hid (¬ P2 g) := Lib.hid (fun hb => (HP2.out g hb).2.1 rfl)
      have HO5 := Lib.hid hO5
      have HT5 := Lib.hid ht5
      have HP5 := Lib.hid hP5
      have HG5 : Hid (¬ P5 g) := Lib.hid (fun hb => (HP5.out g hb).2.1 rfl)
      have HO6 := Lib.hid hO6
      have HT6 := Lib.hid ht6
      have HP6 := Lib.hid hP6
      have HG6 : Hid (¬ P6 g) := Lib.hid (fun hb => (HP6.out g hb).2.1 rfl)
      have HD2x5 := Lib.hid hd2x5
      have HD2x6 := Lib.hid hd2x6
      have HD5x6 := Lib.hid hd5x6
      have HPUT := Lib.hid hput
      have HZ := Lib.hid hzi
      have HCN := Lib.hid hcn
      have HBR := Lib.hid hBr
      have HSZ := Lib.hid hsz
      have HRg : Hid (¬ Br g) := Lib.hid (fun hb => (hBr g hb).2 rfl)
      have HBg := Lib.hid hBg
      have HYZ := Lib.hid hyz
      clear hh hput hcell hfr hzi hdi hOd hcn hBi hBr hO hlen hsz hyz hO2 ht2 hp2 hP2 hl2 hm2 hO5 ht5 hp5 hP5 hl5 hm5 hO6 ht6 hp6 hP6 hl6 hm6 hd2x5 hd2x6 hd5x6
      have r0 : wr.cell? ⟨g, i * 12, none⟩ = some (.int .i64 f0) := HX.out.cell HSZ.out (j := 0) rfl rfl
      have q0 : wr.frozen? ⟨g, i * 12, none⟩ = false := HX.out.frozen _
      have r1 : wr.cell? ⟨g, i * 12 + 1, none⟩ = some (.int .i64 f1) := HX.out.cell HSZ.out (j := 1) rfl rfl
      have q1 : wr.frozen? ⟨g, i * 12 + 1, none⟩ = false := HX.out.frozen _
      have r2 : wr.cell? ⟨g, i * 12 + 2, none⟩ = some (.slice A2 n2 c2) := HX.out.cell HSZ.out (j := 2) rfl rfl
      have q2 : wr.frozen? ⟨g, i * 12 + 2, none⟩ = false := HX.out.frozen _
      go_wp2_with fail
      refine (markValueS L2 A2 n2 c2 _ P2 _ ((HO2.out.far (p := i * 12) (v := .int .i64 (y)) HG2.out).far (p := i * 12 + 1) (v := .int .i64 (y + 1)) HG2.out) HT2.out (by have hz := HYZ.out; omega) (by have hz := HYZ.out; omega) hn2).mono ?_
      rintro e w1 ⟨rfl, hO2, hT9⟩
      have HX' := Lib.hid (((HX.out.store HSZ.out HBg.out HRg.out (j := 0) (by simp) rfl (.int .i64 (y))).store HSZ.out HBg.out HRg.out (j := 1) (by simp) rfl (.int .i64 (y + 1))).touch hT9 HP2.out)
      replace HO5 := Lib.hid (((HO5.out.far (p := i * 12) (v := .int .i64 (y)) HG5.out).far (p := i * 12 + 1) (v := .int .i64 (y + 1)) HG5.out).touch hT9 (fun b h1 h2 => HD2x5.out b h2 h1))
      replace HO6 := Lib.hid (((HO6.out.far (p := i * 12) (v := .int .i64 (y)) HG6.out).far (p := i * 12 + 1) (v := .int .i64 (y + 1)) HG6.out).touch hT9 (fun b h1 h2 => HD2x6.out b h2 h1))
      replace HO2 := Lib.hid hO2
      replace HX := HX'
      clear hT9 hO2 HX' r0 q0 r1 q1 r2 q2
      obtain ⟨y1, hy1⟩ : ∃ u : Int, u = y + 1 + 1 + cntAll L2 := ⟨_, rfl⟩
      rw [← hy1]
      have HY1 := Lib.hid hy1
      have hp1 : 0 < y1 := by omega
      have hq1 : y1 + 7 ≤ 1099511627776 := by have hz := HYZ.out; omega
      clear hy1
      have r3 : w1.cell? ⟨g, i * 12 + 3, none⟩ = some (.int .i64 f3) := HX.out.cell HSZ.out (j := 3) rfl rfl
      have q3 : w1.frozen? ⟨g, i * 12 + 3, none⟩ = false := HX.out.frozen _
      have r4 : w1.cell? ⟨g, i * 12 + 4, none⟩ = some (.int .i64 f4_0) := HX.out.cell HSZ.out (j := 4) rfl rfl
      have q4 : w1.frozen? ⟨g, i * 12 + 4, none⟩ = false := HX.out.frozen _
      have r5 : w1.cell? ⟨g, i * 12 + 5, none⟩ = some (.int .i64 f4_1) := HX.out.cell HSZ.out (j := 5) rfl rfl
      have q5 : w1.frozen? ⟨g, i * 12 + 5, none⟩ = false := HX.out.frozen _
      have r6 : w1.cell? ⟨g, i * 12 + 6, none⟩ = some (.slice A5 n5 c5) := HX.out.cell HSZ.out (j := 6) rfl rfl
      have q6 : w1.frozen? ⟨g, i * 12 + 6, none⟩ = false := HX.out.frozen _
      go_wp2_with fail
      refine (markSentS L5 A5 n5 c5 _ P5 _ (((HO5.out.far (p := i * 12 + 3) (v := .int .i64 (y1)) HG5.out).far (p := i * 12 + 4) (v := .int .i64 (y1 + 1)) HG5.out).far (p := i * 12 + 5) (v := .int .i64 (y1 + 1 + 1)) HG5.out) HT5.out (by have eHY1 := HY1.out; have hz := HYZ.out; omega) (by have eHY1 := HY1.out; have hz := HYZ.out; omega) hn5).mono ?_
      rintro e w2 ⟨rfl, hO5, hT9⟩
      have HX' := Lib.hid ((((HX.out.store HSZ.out HBg.out HRg.out (j := 3) (by simp) rfl (.int .i64 (y1))).store HSZ.out HBg.out HRg.out (j := 4) (by simp) rfl (.int .i64 (y1 + 1))).store HSZ.out HBg.out HRg.out (j := 5) (by simp) rfl (.int .i64 (y1 + 1 + 1))).touch hT9 HP5.out)
      replace HO2 := Lib.hid ((((HO2.out.far (p := i * 12 + 3) (v := .int .i64 (y1)) HG2.out).far (p := i * 12 + 4) (v := .int .i64 (y1 + 1)) HG2.out).far (p := i * 12 + 5) (v := .int .i64 (y1 + 1 + 1)) HG2.out).touch hT9 (fun b h1 h2 => HD2x5.out b h1 h2))
      replace HO6 := Lib.hid ((((HO6.out.far (p := i * 12 + 3) (v := .int .i64 (y1)) HG6.out).far (p := i * 12 + 4) (v := .int .i64 (y1 + 1)) HG6.out).far (p := i * 12 + 5) (v := .int .i64 (y1 + 1 + 1)) HG6.out).touch hT9 (fun b h1 h2 => HD5x6.out b h2 h1))
      replace HO5 := Lib.hid hO5
      replace HX := HX'
      clear hT9 hO5 HX' r3 q3 r4 q4 r5 q5 r6 q6
      obtain ⟨y2, hy2⟩ : ∃ u : Int, u = y1 + 1 + 1 + 1 + cntAll L5 := ⟨_, rfl⟩
      rw [← hy2]
      have HY2 := Lib.hid hy2
      have hp2 : 0 < y2 := by have eHY1 := HY1.out; omega
      have hq2 : y2 + 4 ≤ 1099511627776 := by have eHY1 := HY1.out; have hz := HYZ.out; omega
      clear hy2
      have r7 : w2.cell? ⟨g, i * 12 + 7, none⟩ = some (.slice A6 n6 c6) := HX.out.cell HSZ.out (j := 7) rfl rfl
      have q7 : w2.frozen? ⟨g, i * 12 + 7, none⟩ = false := HX.out.frozen _
      go_wp2_with fail
      refine (markAskerS L6 A6 n6 c6 _ P6 _ HO6.out HT6.out (by have eHY1 := HY1.out; have eHY2 := HY2.out; have hz := HYZ.out; omega) (by have eHY1 := HY1.out; have eHY2 := HY2.out; have hz := HYZ.out; omega) hn6).mono ?_
      rintro e w3 ⟨rfl, hO6, hT9⟩
      have HX' := Lib.hid (HX.out.touch hT9 HP6.out)
      replace HO2 := Lib.hid (HO2.out.touch hT9 (fun b h1 h2 => HD2x6.out b h1 h2))
      replace HO5 := Lib.hid (HO5.out.touch hT9 (fun b h1 h2 => HD5x6.out b h1 h2))
      replace HO6 := Lib.hid hO6
      replace HX := HX'
      clear hT9 hO6 HX' r7 q7
      obtain ⟨y3, hy3⟩ : ∃ u : Int, u = y2 + cntAll L6 := ⟨_, rfl⟩
      rw [← hy3]
      have HY3 := Lib.hid hy3
      have hp3 : 0 < y3 := by have eHY1 := HY1.out; have eHY2 := HY2.out; omega
      have hq3 : y3 + 4 ≤ 1099511627776 := by have eHY1 := HY1.out; have eHY2 := HY2.out; have hz := HYZ.out; omega
      clear hy3
      have r8 : w3.cell? ⟨g, i * 12 + 8, none⟩ = some (.int .i64 f7) := HX.out.cell HSZ.out (j := 8) rfl rfl
      have q8 : w3.frozen? ⟨g, i * 12 + 8, none⟩ = false := HX.out.frozen _
      have r9 : w3.cell? ⟨g, i * 12 + 9, none⟩ = some (.int .i64 f8) := HX.out.cell HSZ.out (j := 9) rfl rfl
      have q9 : w3.frozen? ⟨g, i * 12 + 9, none⟩ = false := HX.out.frozen _
      have r10 : w3.cell? ⟨g, i * 12 + 10, none⟩ = some (.int .i64 f9) := HX.out.cell HSZ.out (j := 10) rfl rfl
      have q10 : w3.frozen? ⟨g, i * 12 + 10, none⟩ = false := HX.out.frozen _
      have r11 : w3.cell? ⟨g, i * 12 + 11, none⟩ = some (.int .i64 f10) := HX.out.cell HSZ.out (j := 11) rfl rfl
      have q11 : w3.frozen? ⟨g, i * 12 + 11, none⟩ = false := HX.out.frozen _
      go_wp2_with fail
      go_roundw
      case rel =>
        have X9 := ((((HX.out.store HSZ.out HBg.out HRg.out (j := 8) (by simp) rfl (.int .i64 (y3))).store HSZ.out HBg.out HRg.out (j := 9) (by simp) rfl (.int .i64 (y3 + 1))).store HSZ.out HBg.out HRg.out (j := 10) (by simp) rfl (.int .i64 (y3 + 1 + 1))).store HSZ.out HBg.out HRg.out (j := 11) (by simp) rfl (.int .i64 (y3 + 1 + 1 + 1)))
        have O2 := ((((HO2.out.far (p := i * 12 + 8) (v := .int .i64 (y3)) HG2.out).far (p := i * 12 + 9) (v := .int .i64 (y3 + 1)) HG2.out).far (p := i * 12 + 10) (v := .int .i64 (y3 + 1 + 1)) HG2.out).far (p := i * 12 + 11) (v := .int .i64 (y3 + 1 + 1 + 1)) HG2.out)
        have O5 := ((((HO5.out.far (p := i * 12 + 8) (v := .int .i64 (y3)) HG5.out).far (p := i * 12 + 9) (v := .int .i64 (y3 + 1)) HG5.out).far (p := i * 12 + 10) (v := .int .i64 (y3 + 1 + 1)) HG5.out).far (p := i * 12 + 11) (v := .int .i64 (y3 + 1 + 1 + 1)) HG5.out)
        have O6 := ((((HO6.out.far (p := i * 12 + 8) (v := .int .i64 (y3)) HG6.out).far (p := i * 12 + 9) (v := .int .i64 (y3 + 1)) HG6.out).far (p := i * 12 + 10) (v := .int .i64 (y3 + 1 + 1)) HG6.out).far (p := i * 12 + 11) (v := .int .i64 (y3 + 1 + 1 + 1)) HG6.out)
        obtain ⟨cur9, c9, l9⟩ := X9.c
        refine ⟨i + 1, _, by omega, by go_num, rfl, ?_, ?_, HTo.out.trans X9.t⟩
        · have h1 := HY.out
          have h2 := HCN.out
          have eHY1 := HY1.out; have eHY2 := HY2.out; have eHY3 := HY3.out; omega
        · rw [← half_set HZ.out, ← HY.out, mkdEntity]
          have eHY1 := HY1.out; have eHY2 := HY2.out; have eHY3 := HY3.out; skip
          refine (HPUT.out _ _ _ (fun b => P2 b ∨ P5 b ∨ P6 b ∨ False) cur9 rfl ?_ (fun b hb => ?_) c9 l9 X9.r).mono (fun b hb => ?_)
          · refine Eq.mp (congrArg (fun cs => Owns _ _ cs _) ?_) (ownPEntity (f0 := y) (f1 := y + 1) (L2 := mkAll L2 (y + 2)) (f3 := y + 2 + cntAll L2) (f4_0 := y + 3 + cntAll L2) (f4_1 := y + 4 + cntAll L2) (L5 := mkAll L5 (y + 5 + cntAll L2)) (L6 := mkAll L6 (y + 5 + cntAll L2 + cntAll L5)) (f7 := y + 5 + cntAll L2 + cntAll L5 + cntAll L6) (f8 := y + 6 + cntAll L2 + cntAll L5 + cntAll L6) (f9 := y + 7 + cntAll L2 + cntAll L5 + cntAll L6) (f10 := y + 8 + cntAll L2 + cntAll L5 + cntAll L6) (show Owns _ (.l (mkAll L2 (y + 2))) _ _ from Eq.mp (congrArg (fun u : Int => Owns _ (.l (mkAll L2 u)) _ _) (by omega)) O2) (show Owns _ (.l (mkAll L5 (y + 5 + cntAll L2))) _ _ from Eq.mp (congrArg (fun u : Int => Owns _ (.l (mkAll L5 u)) _ _) (by omega)) O5) (show Owns _ (.l (mkAll L6 (y + 5 + cntAll L2 + cntAll L5))) _ _ from Eq.mp (congrArg (fun u : Int => Owns _ (.l (mkAll L6 u)) _ _) (by omega)) O6) HD2x5.out HD2x6.out HD5x6.out)
            simp only [List.set]
            exact (cons_eq (congrArg (Value.int .i64) (by omega)) (cons_eq (congrArg (Value.int .i64) (by omega)) (cons_eq rfl (cons_eq (congrArg (Value.int .i64) (by omega)) (cons_eq (congrArg (Value.int .i64) (by omega)) (cons_eq (congrArg (Value.int .i64) (by omega)) (cons_eq rfl (cons_eq rfl (cons_eq (congrArg (Value.int .i64) (by omega)) (cons_eq (congrArg (Value.int .i64) (by omega)) (cons_eq (congrArg (Value.int .i64) (by omega)) (cons_eq (congrArg (Value.int .i64) (by omega)) rfl))))))))))))
          · rcases hb with hb | hb | hb | hb
            · exact (HP2.out b hb).2
            · exact (HP5.out b hb).2
            · exact (HP6.out b hb).2
            · exact hb.elim
          · rcases hb with rfl | hb | hb | hb | hb | hb
            · exact HBg.out
            · exact (HBR.out b hb).1
            · exact (HP2.out b hb).1
            · exact (HP5.out b hb).1
            · exact (HP6.out b hb).1
            · exact hb.elim
      case measure => simp [intOf]; omega
    · obtain rfl : i = n := by omega
      have HM : Hid (MarkedD L A i c z B w (.returned (.int .i64 y)) wr) := Lib.hid ⟨by rw [HY.out, List.take_of_length_le (by have := HC.out; omega)], by rw [half_all HC.out] at hO; exact hO, HTo.out⟩
      clear hO
      go_wp2_with fail
      go_ret
      exact HM.out
set_option maxRecDepth 100000 in
set_option maxHeartbeats 8000000 in
theorem heldEntityS (L : List Dat) (A : Option Addr) (n c : Nat) (z : Int) (w : World) (h : Lies w (.l (mkAll L z)) [.slice A n c]) (ht : ∀ x ∈ L, Has tyEntity x) (h0 : 0 < z) (h1 : z + cntAll L ≤ 1099511627776) (hn : n ≤ 1099511627776) :
    Calls Try.prog 81 #[.slice A n c, .int .i64 z] w (GivesInt (z + cntAll L) w) := by
  have HT := Lib.hid ht
  have hc := h.count
  rw [mkAll_len] at hc
  have HC := Lib.hid hc
  have H := Lib.hid h
  have H1 := Lib.hid h1
  have hk : ∀ x ∈ mkAll L z, x.width = 12 := fun x hx => by
    obtain ⟨j, hj, rfl⟩ := List.getElem_of_mem hx
    have hjl : j < L.length := by rw [mkAll_len] at hj; exact hj
    have e := mkAll_at (z := z) (List.getElem?_eq_getElem hjl)
    rw [List.getElem?_eq_getElem hj] at e
    rw [Option.some.inj e, mkd_width]
    exact (ht _ (List.getElem_mem hjl)).width
  have HK := Lib.hid hk
  clear h ht h1 hc hk
  go_enter Try.func81, Try.ntmps81
  go_wp2
  go_loopw [1, 5] (fun zv iv wr => ∃ (i : Nat) (y : Int), i ≤ n ∧ iv = .int .i64 i ∧ zv = .int .i64 y ∧ y = z + cntAll (L.take i) ∧ Below w.heap.size w wr) (fun _ iv _ => n - (intOf iv).toNat)
  case atStart => exact ⟨0, z, Nat.zero_le _, rfl, rfl, by simp [cntAll], Below.refl _ _⟩
  case round =>
    obtain ⟨i, y, hin, rfl, rfl, hy, hb⟩ := hrel
    have HY := Lib.hid hy
    have HB := Lib.hid hb
    clear hy hb
    by_cases hlt : i < n
    · have hzi : L[i]? = some (L[i]'(by have := HC.out; omega)) := List.getElem?_eq_getElem (by have := HC.out; omega)
      generalize L[i]'(by have := HC.out; omega) = d at hzi
      obtain ⟨b, off, d', xs, rfl, hbw, hdi, hlie, hlen, hcell⟩ := (H.out.below HB.out).elem HK.out hlt
      obtain rfl : mkd d (z + cntAll (L.take i)) = d' := by rw [mkAll_at hzi] at hdi; exact Option.some.inj hdi
      rw [← HY.out] at hlie
      obtain ⟨ds, rfl, hds⟩ := HT.out d (List.mem_of_getElem? hzi)
      simp only [HasAll] at hds
      obtain ⟨d0, r0, rfl, ⟨f0, rfl, -, -⟩, d1, r1, rfl, ⟨f1, rfl, -, -⟩, d2, r2, rfl, ⟨L2, rfl, hm2, ht2⟩, d3, r3, rfl, ⟨f3, rfl, -, -⟩, d4, r4, rfl, ⟨ds4, rfl, d4_0, r4_0, rfl, ⟨f4_0, rfl, -, -⟩, d4_1, r4_1, rfl, ⟨f4_1, rfl, -, -⟩, rfl⟩, d5, r5, rfl, ⟨L5, rfl, hm5, ht5⟩, d6, r6, rfl, ⟨L6, rfl, hm6, ht6⟩, d7, r7, rfl, ⟨f7, rfl, -, -⟩, d8, r8, rfl, ⟨f8, rfl, -, -⟩, d9, r9, rfl, ⟨f9, rfl, -, -⟩, d10, r10, rfl, ⟨f10, rfl, -, -⟩, rfl⟩ := hds
      rw [mkdEntity] at hlie
      simp only [Lies, LiesAll] at hlie
      obtain ⟨e0, q0, rfl, rfl, e1, q1, rfl, rfl, e2, q2, rfl, ⟨A2, m2, c2, rfl, hn2, hh2⟩, e3, q3, rfl, rfl, e4, q4, rfl, ⟨e4_0, q4_0, rfl, rfl, e4_1, q4_1, rfl, rfl, rfl⟩, e5, q5, rfl, ⟨A5, m5, c5, rfl, hn5, hh5⟩, e6, q6, rfl, ⟨A6, m6, c6, rfl, hn6, hh6⟩, e7, q7, rfl, rfl, e8, q8, rfl, rfl, e9, q9, rfl, rfl, e10, q10, rfl, rfl, rfl⟩ := hlie
      have hcn : (cntAll (L.take (i + 1)) : Int) = cntAll (L.take i) + (0 + 9 + cntAll L2 + cntAll L5 + cntAll L6) := by rw [← cntEntity (f0 := f0) (f1 := f1) (L2 := L2) (f3 := f3) (f4_0 := f4_0) (f4_1 := f4_1) (L5 := L5) (L6 := L6) (f7 := f7) (f8 := f8) (f9 := f9) (f10 := f10)]; have := cnt_next hzi; omega
      have hcl := cnt_take_le L (i + 1)
      have hyz : y + 9 + cntAll L2 + cntAll L5 + cntAll L6 ≤ 1099511627776 := by have h1 := HY.out; have h2 := H1.out; omega
      have hy0 : 0 < y := by have := HY.out; omega
      have hyt : y + 9 ≤ 1099511627776 := by omega
      have HL2 : Hid (Lies wr (.l (mkAll L2 (y + 2))) [.slice A2 m2 c2]) := Lib.hid (by rw [Lies]; exact ⟨A2, m2, c2, rfl, hn2, hh2⟩)
      have hu2 : m2 ≤ 1099511627776 := by have h1 := len_le_cntD (fun x hx => cntposValue (ht2 x hx)); rw [mkAll_len] at hn2; omega
      have HT2 := Lib.hid ht2
      have HL5 : Hid (Lies wr (.l (mkAll L5 (y + 5 + cntAll L2))) [.slice A5 m5 c5]) := Lib.hid (by rw [Lies]; exact ⟨A5, m5, c5, rfl, hn5, hh5⟩)
      have hu5 : m5 ≤ 1099511627776 := by have h1 := len_le_cntD (fun x hx => cntposSent (ht5 x hx)); rw [mkAll_len] at hn5; omega
      have HT5 := Lib.hid ht5
      have HL6 : Hid (Lies wr (.l (mkAll L6 (y + 5 + cntAll L2 + cntAll L5))) [.slice A6 m6 c6]) := Lib.hid (by rw [Lies]; exact ⟨A6, m6, c6, rfl, hn6, hh6⟩)
      have hu6 : m6 ≤ 1099511627776 := by have h1 := len_le_cntD (fun x hx => cntposAsker (ht6 x hx)); rw [mkAll_len] at hn6; omega
      have HT6 := Lib.hid ht6
      have s0 : wr.cell? ⟨b, off + i * 12, none⟩ = some (.int .i64 (y)) := hcell 0 _ rfl
      have s1 : wr.cell? ⟨b, off + i * 12 + 1, none⟩ = some (.int .i64 (y + 1)) := hcell 1 _ rfl
      have s2 : wr.cell? ⟨b, off + i * 12 + 2, none⟩ = some (.slice A2 m2 c2) := hcell 2 _ rfl
      have s3 : wr.cell? ⟨b, off + i * 12 + 3, none⟩ = some (.int .i64 (y + 2 + cntAll L2)) := hcell 3 _ rfl
      have s4 : wr.cell? ⟨b, off + i * 12 + 4, none⟩ = some (.int .i64 (y + 3 + cntAll L2)) := hcell 4 _ rfl
      have s5 : wr.cell? ⟨b, off + i * 12 + 5, none⟩ = some (.int .i64 (y + 4 + cntAll L2)) := hcell 5 _ rfl
      have s6 : wr.cell? ⟨b, off + i * 12 + 6, none⟩ = some (.slice A5 m5 c5) := hcell 6 _ rfl
      have s7 : wr.cell? ⟨b, off + i * 12 + 7, none⟩ = some (.slice A6 m6 c6) := hcell 7 _ rfl
      have s8 : wr.cell? ⟨b, off + i * 12 + 8, none⟩ = some (.int .i64 (y + 5 + cntAll L2 + cntAll L5 + cntAll L6)) := hcell 8 _ rfl
      have s9 : wr.cell? ⟨b, off + i * 12 + 9, none⟩ = some (.int .i64 (y + 6 + cntAll L2 + cntAll L5 + cntAll L6)) := hcell 9 _ rfl
      have s10 : wr.cell? ⟨b, off + i * 12 + 10, none⟩ = some (.int .i64 (y + 7 + cntAll L2 + cntAll L5 + cntAll L6)) := hcell 10 _ rfl
      have s11 : wr.cell? ⟨b, off + i * 12 + 11, none⟩ = some (.int .i64 (y + 8 + cntAll L2 + cntAll L5 + cntAll L6)) := hcell 11 _ rfl
      have HCN := Lib.hid hcn
      have HYZ := Lib.hid hyz
      have HS : Hid (wr.cell? ⟨b, off + i * 12, none⟩ = some (.int .i64 (y)) ∧ wr.cell? ⟨b, off + i * 12 + 1, none⟩ = some (.int .i64 (y + 1)) ∧ wr.cell? ⟨b, off + i * 12 + 2, none⟩ = some (.slice A2 m2 c2) ∧ wr.cell? ⟨b, off + i * 12 + 3, none⟩ = some (.int .i64 (y + 2 + cntAll L2)) ∧ wr.cell? ⟨b, off + i * 12 + 4, none⟩ = some (.int .i64 (y + 3 + cntAll L2)) ∧ wr.cell? ⟨b, off + i * 12 + 5, none⟩ = some (.int .i64 (y + 4 + cntAll L2)) ∧ wr.cell? ⟨b, off + i * 12 + 6, none⟩ = some (.slice A5 m5 c5) ∧ wr.cell? ⟨b, off + i * 12 + 7, none⟩ = some (.slice A6 m6 c6) ∧ wr.cell? ⟨b, off + i * 12 + 8, none⟩ = some (.int .i64 (y + 5 + cntAll L2 + cntAll L5 + cntAll L6)) ∧ wr.cell? ⟨b, off + i * 12 + 9, none⟩ = some (.int .i64 (y + 6 + cntAll L2 + cntAll L5 + cntAll L6)) ∧ wr.cell? ⟨b, off + i * 12 + 10, none⟩ = some (.int .i64 (y + 7 + cntAll L2 + cntAll L5 + cntAll L6)) ∧ wr.cell? ⟨b, off + i * 12 + 11, none⟩ = some (.int .i64 (y + 8 + cntAll L2 + cntAll L5 + cntAll L6))) := Lib.hid ⟨s0, s1, s2, s3, s4, s5, s6, s7, s8, s9, s10, s11⟩
      have HBW := Lib.hid hbw
      clear hcn hzi hdi hlen hcell hyz s0 s1 s2 s3 s4 s5 s6 s7 s8 s9 s10 s11 ht2 hm2 hn2 hh2 ht5 hm5 hn5 hh5 ht6 hm6 hn6 hh6
      have HQ : Hid (Below wr.heap.size wr wr) := Lib.hid (Below.refl _ _)
      have r0 : wr.cell? ⟨b, off + i * 12, none⟩ = some (.int .i64 (y)) := by rw [show y = y by omega]; exact (HQ.out.cell (p := ⟨b, off + i * 12, none⟩) HBW.out).trans HS.out.1
      have r1 : wr.cell? ⟨b, off + i * 12 + 1, none⟩ = some (.int .i64 (y + 1)) := by rw [show y + 1 = y + 1 by omega]; exact (HQ.out.cell (p := ⟨b, off + i * 12 + 1, none⟩) HBW.out).trans HS.out.2.1
      have r2 : wr.cell? ⟨b, off + i * 12 + 2, none⟩ = some (.slice A2 m2 c2) := (HQ.out.cell (p := ⟨b, off + i * 12 + 2, none⟩) HBW.out).trans HS.out.2.2.1
      go_wp2_with fail
      refine (heldValueS L2 A2 m2 c2 _ _ (Eq.mp (congrArg (fun u : Int => Lies _ (.l (mkAll L2 u)) _) (by omega)) (HL2.out.below HQ.out)) HT2.out (by have hz := HYZ.out; omega) (by have hz := HYZ.out; omega) hu2).mono ?_
      rintro e w1 ⟨rfl, hb⟩
      replace HQ := Lib.hid (HQ.out.trans (hb.mono HQ.out.size))
      clear hb r0 r1 r2
      obtain ⟨y1, hy1⟩ : ∃ u : Int, u = y + 1 + 1 + cntAll L2 := ⟨_, rfl⟩
      rw [← hy1]
      have HY1 := Lib.hid hy1
      have hp1 : 0 ≤ y1 := by omega
      have hq1 : y1 + 7 ≤ 1099511627776 := by have hz := HYZ.out; omega
      clear hy1
      have r3 : w1.cell? ⟨b, off + i * 12 + 3, none⟩ = some (.int .i64 (y1)) := by have eHY1 := HY1.out; rw [show y1 = y + 2 + cntAll L2 by omega]; exact (HQ.out.cell (p := ⟨b, off + i * 12 + 3, none⟩) HBW.out).trans HS.out.2.2.2.1
      have r4 : w1.cell? ⟨b, off + i * 12 + 4, none⟩ = some (.int .i64 (y1 + 1)) := by have eHY1 := HY1.out; rw [show y1 + 1 = y + 3 + cntAll L2 by omega]; exact (HQ.out.cell (p := ⟨b, off + i * 12 + 4, none⟩) HBW.out).trans HS.out.2.2.2.2.1
      have r5 : w1.cell? ⟨b, off + i * 12 + 5, none⟩ = some (.int .i64 (y1 + 1 + 1)) := by have eHY1 := HY1.out; rw [show y1 + 1 + 1 = y + 4 + cntAll L2 by omega]; exact (HQ.out.cell (p := ⟨b, off + i * 12 + 5, none⟩) HBW.out).trans HS.out.2.2.2.2.2.1
      have r6 : w1.cell? ⟨b, off + i * 12 + 6, none⟩ = some (.slice A5 m5 c5) := (HQ.out.cell (p := ⟨b, off + i * 12 + 6, none⟩) HBW.out).trans HS.out.2.2.2.2.2.2.1
      go_wp2_with fail
      refine (heldSentS L5 A5 m5 c5 _ _ (Eq.mp (congrArg (fun u : Int => Lies _ (.l (mkAll L5 u)) _) (by have eHY1 := HY1.out; omega)) (HL5.out.below HQ.out)) HT5.out (by have eHY1 := HY1.out; have hz := HYZ.out; omega) (by have eHY1 := HY1.out; have hz := HYZ.out; omega) hu5).mono ?_
      rintro e w2 ⟨rfl, hb⟩
      replace HQ := Lib.hid (HQ.out.trans (hb.mono HQ.out.size))
      clear hb r3 r4 r5 r6
      obtain ⟨y2, hy2⟩ : ∃ u : Int, u = y1 + 1 + 1 + 1 + cntAll L5 := ⟨_, rfl⟩
      rw [← hy2]
      have HY2 := Lib.hid hy2
      have hp2 : 0 ≤ y2 := by have eHY1 := HY1.out; omega
      have hq2 : y2 + 4 ≤ 1099511627776 := by have eHY1 := HY1.out; have hz := HYZ.out; omega
      clear hy2
      have r7 : w2.cell? ⟨b, off + i * 12 + 7, none⟩ = some (.slice A6 m6 c6) := (HQ.out.cell (p := ⟨b, off + i * 12 + 7, none⟩) HBW.out).trans HS.out.2.2.2.2.2.2.2.1
      go_wp2_with fail
      refine (heldAskerS L6 A6 m6 c6 _ _ (Eq.mp (congrArg (fun u : Int => Lies _ (.l (mkAll L6 u)) _) (by have eHY1 := HY1.out; have eHY2 := HY2.out; omega)) (HL6.out.below HQ.out)) HT6.out (by have eHY1 := HY1.out; have eHY2 := HY2.out; have hz := HYZ.out; omega) (by have eHY1 := HY1.out; have eHY2 := HY2.out; have hz := HYZ.out; omega) hu6).mono ?_
      rintro e w3 ⟨rfl, hb⟩
      replace HQ := Lib.hid (HQ.out.trans (hb.mono HQ.out.size))
      clear hb r7
      obtain ⟨y3, hy3⟩ : ∃ u : Int, u = y2 + cntAll L6 := ⟨_, rfl⟩
      rw [← hy3]
      have HY3 := Lib.hid hy3
      have hp3 : 0 ≤ y3 := by have eHY1 := HY1.out; have eHY2 := HY2.out; omega
      have hq3 : y3 + 4 ≤ 1099511627776 := by have eHY1 := HY1.out; have eHY2 := HY2.out; have hz := HYZ.out; omega
      clear hy3
      have r8 : w3.cell? ⟨b, off + i * 12 + 8, none⟩ = some (.int .i64 (y3)) := by have eHY1 := HY1.out; have eHY2 := HY2.out; have eHY3 := HY3.out; rw [show y3 = y + 5 + cntAll L2 + cntAll L5 + cntAll L6 by omega]; exact (HQ.out.cell (p := ⟨b, off + i * 12 + 8, none⟩) HBW.out).trans HS.out.2.2.2.2.2.2.2.2.1
      have r9 : w3.cell? ⟨b, off + i * 12 + 9, none⟩ = some (.int .i64 (y3 + 1)) := by have eHY1 := HY1.out; have eHY2 := HY2.out; have eHY3 := HY3.out; rw [show y3 + 1 = y + 6 + cntAll L2 + cntAll L5 + cntAll L6 by omega]; exact (HQ.out.cell (p := ⟨b, off + i * 12 + 9, none⟩) HBW.out).trans HS.out.2.2.2.2.2.2.2.2.2.1
      have r10 : w3.cell? ⟨b, off + i * 12 + 10, none⟩ = some (.int .i64 (y3 + 1 + 1)) := by have eHY1 := HY1.out; have eHY2 := HY2.out; have eHY3 := HY3.out; rw [show y3 + 1 + 1 = y + 7 + cntAll L2 + cntAll L5 + cntAll L6 by omega]; exact (HQ.out.cell (p := ⟨b, off + i * 12 + 10, none⟩) HBW.out).trans HS.out.2.2.2.2.2.2.2.2.2.2.1
      have r11 : w3.cell? ⟨b, off + i * 12 + 11, none⟩ = some (.int .i64 (y3 + 1 + 1 + 1)) := by have eHY1 := HY1.out; have eHY2 := HY2.out; have eHY3 := HY3.out; rw [show y3 + 1 + 1 + 1 = y + 8 + cntAll L2 + cntAll L5 + cntAll L6 by omega]; exact (HQ.out.cell (p := ⟨b, off + i * 12 + 11, none⟩) HBW.out).trans HS.out.2.2.2.2.2.2.2.2.2.2.2
      go_wp2_with fail
      go_roundw
      case rel =>
        refine ⟨i + 1, _, by omega, by go_num, rfl, ?_, HB.out.trans (HQ.out.mono HB.out.size)⟩
        have h1 := HY.out
        have h2 := HCN.out
        have eHY1 := HY1.out; have eHY2 := HY2.out; have eHY3 := HY3.out; omega
      case measure => simp [intOf]; omega
    · obtain rfl : i = n := by omega
      have HE : Hid (y = z + cntAll L) := Lib.hid (by rw [HY.out, List.take_of_length_le (by have := HC.out; omega)])
      go_wp2_with fail
      go_ret
      exact GivesInt.ret HE.out HB.out
end Go.Proofs.Ytmeacgpebpfpbaa
