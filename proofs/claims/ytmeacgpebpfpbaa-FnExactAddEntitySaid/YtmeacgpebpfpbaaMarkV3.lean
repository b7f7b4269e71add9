/- Chapter 12's marks, by program. -/
import Derived.Test.YtmeacgpebpfpbaaMarkW
import Derived.Test.YtmeacgpebpfpbaaMarkL
import Derived.Deep.RegionHeld3
import Derived.LoopTactic
import Derived.Lib.Hide
import Derived.Deep.QuietTactic
import Derived.BigQuiet
import Derived.Deep.RegionWith
import Derived.Handy
namespace Go.Proofs.Ytmeacgpebpfpbaa
open Go.RowKit
set_option linter.unusedVariables false
set_option linter.unusedSimpArgs false
theorem cntposExport {d : Dat} (h : Has tyExport d) : 1 ≤ d.cnt := by
  obtain ⟨ds, rfl, hds⟩ := h
  obtain ⟨d0, r0, rfl, h0, -⟩ := hds
  have : 1 ≤ d0.cnt := by obtain ⟨x, rfl, -⟩ := h0; exact Nat.le_refl 1
  show 1 ≤ cntAll (d0 :: r0)
  rw [cntAll]; omega
theorem cntposQuestion {d : Dat} (h : Has tyQuestion d) : 1 ≤ d.cnt := by
  obtain ⟨ds, rfl, hds⟩ := h
  obtain ⟨d0, r0, rfl, h0, -⟩ := hds
  have : 1 ≤ d0.cnt := by obtain ⟨x, rfl, -⟩ := h0; exact Nat.le_refl 1
  show 1 ≤ cntAll (d0 :: r0)
  rw [cntAll]; omega
theorem mkdLink {f0 : Int} { f1 : Bool} { L2 : List Dat} { f3 : Int} { L4 : List Dat} { f5 : Int} { L6 : List Dat} (y : Int) : mkd (.r [.i f0, .b f1, .l L2, .i f3, .l L4, .i f5, .l L6]) y = .r [.i (y), .b ((y + 1) % 3 == 0), .l (mkAll L2 (y + 2)), .i (y + 2 + cntAll L2), .l (mkAll L4 (y + 3 + cntAll L2)), .i (y + 3 + cntAll L2 + cntAll L4), .l (mkAll L6 (y + 4 + cntAll L2 + cntAll L4))] := by
  simp only [mkd, mkAll, Dat.cnt, cntAll]
  exact congrArg Dat.r (cons_eq (congrArg Dat.i (by omega)) (cons_eq (congrArg (fun z : Int => Dat.b (z % 3 == 0)) (by omega)) (cons_eq (congrArg (fun z : Int => Dat.l (mkAll L2 z)) (by omega)) (cons_eq (congrArg Dat.i (by omega)) (cons_eq (congrArg (fun z : Int => Dat.l (mkAll L4 z)) (by omega)) (cons_eq (congrArg Dat.i (by omega)) (cons_eq (congrArg (fun z : Int => Dat.l (mkAll L6 z)) (by omega)) rfl)))))))
theorem cntLink {f0 : Int} { f1 : Bool} { L2 : List Dat} { f3 : Int} { L4 : List Dat} { f5 : Int} { L6 : List Dat} : ((.r [.i f0, .b f1, .l L2, .i f3, .l L4, .i f5, .l L6] : Dat).cnt : Int) = 0 + 4 + cntAll L2 + cntAll L4 + cntAll L6 := by
  simp only [Dat.cnt, cntAll]
  omega
theorem partLink {w : World} {B : Nat → Prop} {f0 : Int} {f1 : Bool} {L2 : List Dat} {A2 : Option Addr} {n2 c2 : Nat} {f3 : Int} {L4 : List Dat} {A4 : Option Addr} {n4 c4 : Nat} {f5 : Int} {L6 : List Dat} {A6 : Option Addr} {n6 c6 : Nat} (h : Owns w (.r [.i f0, .b f1, .l L2, .i f3, .l L4, .i f5, .l L6]) [.int .i64 f0, .bool f1, .slice A2 n2 c2, .int .i64 f3, .slice A4 n4 c4, .int .i64 f5, .slice A6 n6 c6] B) : ∃ P2 P4 P6 : Nat → Prop, Owns w (.l L2) [.slice A2 n2 c2] P2 ∧ Owns w (.l L4) [.slice A4 n4 c4] P4 ∧ Owns w (.l L6) [.slice A6 n6 c6] P6 ∧ (∀ b, P2 b → B b) ∧ (∀ b, P4 b → B b) ∧ (∀ b, P6 b → B b) ∧ (∀ b, P2 b → ¬ P4 b) ∧ (∀ b, P2 b → ¬ P6 b) ∧ (∀ b, P4 b → ¬ P6 b) := by
  rw [Owns] at h
  obtain ⟨R0, Q0, g0, h, p0, q0, d0⟩ := OwnsAll.cut (c1 := [.int .i64 f0]) h rfl
  obtain ⟨R1, Q1, g1, h, p1, q1, d1⟩ := OwnsAll.cut (c1 := [.bool f1]) h rfl
  obtain ⟨R2, Q2, g2, h, p2, q2, d2⟩ := OwnsAll.cut (c1 := [.slice A2 n2 c2]) h rfl
  obtain ⟨R3, Q3, g3, h, p3, q3, d3⟩ := OwnsAll.cut (c1 := [.int .i64 f3]) h rfl
  obtain ⟨R4, Q4, g4, h, p4, q4, d4⟩ := OwnsAll.cut (c1 := [.slice A4 n4 c4]) h rfl
  obtain ⟨R5, Q5, g5, h, p5, q5, d5⟩ := OwnsAll.cut (c1 := [.int .i64 f5]) h rfl
  obtain ⟨R6, Q6, g6, h, p6, q6, d6⟩ := OwnsAll.cut (c1 := [.slice A6 n6 c6]) h rfl
  exact ⟨R2, R4, R6, g2, g4, g6, fun b hb => (q0 b (q1 b (p2 b hb))), fun b hb => (q0 b (q1 b (q2 b (q3 b (p4 b hb))))), fun b hb => (q0 b (q1 b (q2 b (q3 b (q4 b (q5 b (p6 b hb))))))), fun b ha hb => d2 b ha (q3 b (p4 b hb)), fun b ha hb => d2 b ha (q3 b (q4 b (q5 b (p6 b hb)))), fun b ha hb => d4 b ha (q5 b (p6 b hb))⟩
theorem ownPLink {w : World} {P2 P4 P6 : Nat → Prop} {f0 : Int} {f1 : Bool} {L2 : List Dat} {A2 : Option Addr} {n2 c2 : Nat} {f3 : Int} {L4 : List Dat} {A4 : Option Addr} {n4 c4 : Nat} {f5 : Int} {L6 : List Dat} {A6 : Option Addr} {n6 c6 : Nat} (hO2 : Owns w (.l L2) [.slice A2 n2 c2] P2) (hO4 : Owns w (.l L4) [.slice A4 n4 c4] P4) (hO6 : Owns w (.l L6) [.slice A6 n6 c6] P6) (hd2x4 : ∀ b, P2 b → ¬ P4 b) (hd2x6 : ∀ b, P2 b → ¬ P6 b) (hd4x6 : ∀ b, P4 b → ¬ P6 b) : Owns w (.r [.i f0, .b f1, .l L2, .i f3, .l L4, .i f5, .l L6]) [.int .i64 f0, .bool f1, .slice A2 n2 c2, .int .i64 f3, .slice A4 n4 c4, .int .i64 f5, .slice A6 n6 c6] (fun b => P2 b ∨ P4 b ∨ P6 b ∨ False) := by
  rw [Owns]
  exact (OwnsAll.consF (c1 := [.int .i64 f0]) (d := .i f0) rfl (OwnsAll.consF (c1 := [.bool f1]) (d := .b f1) rfl (OwnsAll.consP hO2 (OwnsAll.consF (c1 := [.int .i64 f3]) (d := .i f3) rfl (OwnsAll.consP hO4 (OwnsAll.consF (c1 := [.int .i64 f5]) (d := .i f5) rfl (OwnsAll.consP hO6 (OwnsAll.nil_ _ (fun _ => False)) (fun b ha hb => hb.elim))) (fun b ha hb => by rcases hb with hb | hb <;> first | exact hd4x6 b ha hb | exact hb))) (fun b ha hb => by rcases hb with hb | hb | hb <;> first | exact hd2x4 b ha hb | exact hd2x6 b ha hb | exact hb))))
set_option maxRecDepth 100000 in
set_option maxHeartbeats 8000000 in
theorem markLinkS (L : List Dat) (A : Option Addr) (n c : Nat) (z : Int) (B : Nat → Prop) (w : World) (h : Owns w (.l L) [.slice A n c] B) (ht : ∀ x ∈ L, Has tyLink x) (h0 : 0 < z) (h1 : z + cntAll L ≤ 1099511627776) (hn : n ≤ 1099511627776) :
    Calls Try.prog 79 #[.slice A n c, .int .i64 z] w (MarkedD L A n c z B w) := by
  have HT := Lib.hid ht
  have HC := Lib.hid h.lies.count
  have H := Lib.hid h
  have H1 := Lib.hid h1
  clear h ht h1
  go_enter Try.func79, Try.ntmps79
  go_wp2
  go_loopw [1, 5] (fun zv iv wr => ∃ (i : Nat) (y : Int), i ≤ n ∧ iv = .int .i64 i ∧ zv = .int .i64 y ∧ y = z + cntAll (L.take i) ∧ Owns wr (.l (half L z i)) [.slice A n c] B ∧ Touch B w wr) (fun _ iv _ => n - (intOf iv).toNat)
  case atStart => exact ⟨0, z, Nat.zero_le _, rfl, rfl, by simp [cntAll], by rw [half_zero]; exact H.out, Touch.refl _ _⟩
  case round =>
    obtain ⟨i, y, hin, rfl, rfl, hy, hO, hT⟩ := hrel
    have HY := Lib.hid hy
    have HTo := Lib.hid hT
    clear hy hT
    by_cases hlt : i < n
    · have hzi : L[i]? = some (L[i]'(by have := HC.out; omega)) := List.getElem?_eq_getElem (by have := HC.out; omega)
      generalize L[i]'(by have := HC.out; omega) = d at hzi
      obtain ⟨g, E, cur, d', xs, Bi, Br, rfl, hBg, hh, hdi, hOd, hlen, hBi, hBr, hcell, hfr, hsz, hput⟩ := hO.focus (k := 7) (half_width (fun x hx => (HT.out x hx).width)) hlt
      obtain rfl : d = d' := by rw [half_at hzi] at hdi; exact Option.some.inj hdi
      obtain ⟨f0, f1, L2, A2, n2, c2, f3, L4, A4, n4, c4, f5, L6, A6, n6, c6, rfl, rfl, hl2, ht2, hm2, hl4, ht4, hm4, hl6, ht6, hm6⟩ := invLink (HT.out d (List.mem_of_getElem? hzi)) hOd.lies
      obtain ⟨P2, P4, P6, hO2, hO4, hO6, hp2, hp4, hp6, hd2x4, hd2x6, hd4x6⟩ := partLink hOd
      have hcn : (cntAll (L.take (i + 1)) : Int) = cntAll (L.take i) + (0 + 4 + cntAll L2 + cntAll L4 + cntAll L6) := by rw [← cntLink (f0 := f0) (f1 := f1) (L2 := L2) (f3 := f3) (L4 := L4) (f5 := f5) (L6 := L6)]; have := cnt_next hzi; omega
      have hcl := cnt_take_le L (i + 1)
      have hyz : y + 4 + cntAll L2 + cntAll L4 + cntAll L6 ≤ 1099511627776 := by have h1 := HY.out; have h2 := H1.out; omega
      have hy0 : 0 < y := by have := HY.out; omega
      have hyt : y + 4 ≤ 1099511627776 := by omega
      have hn2 : n2 ≤ 1099511627776 := by have h1 := len_le_cntD (fun x hx => cntposExport (ht2 x hx)); have h2 := hl2.count; omega
      have hP2 : ∀ b, P2 b → B b ∧ b ≠ g ∧ ¬ Br b := fun b hb => hBi b (hp2 b hb)
      have hn4 : n4 ≤ 1099511627776 := by have h1 := len_le_cntD (fun x hx => cntposQuestion (ht4 x hx)); have h2 := hl4.count; omega
      have hP4 : ∀ b, P4 b → B b ∧ b ≠ g ∧ ¬ Br b := fun b hb => hBi b (hp4 b hb)
      have hn6 : n6 ≤ 1099511627776 := by have h1 := len_le_cntD (fun x hx => cntposQuestion (ht6 x hx)); have h2 := hl6.count; omega
      have hP6 : ∀ b, P6 b → B b ∧ b ≠ g ∧ ¬ Br b := fun b hb => hBi b (hp6 b hb)
      have HX := Lib.hid (El.start (B := B) (Br := Br) (W := wr) (g := g) (o := i * 7) (xs := [.int .i64 f0, .bool f1, .slice A2 n2 c2, .int .i64 f3, .slice A4 n4 c4, .int .i64 f5, .slice A6 n6 c6]) hh hsz hcell)
      have HO2 := Lib.hid hO2
      have HT2 := Lib.hid ht2
      have HP2 := Lib.hid hP2
      have HG2 : Hid (¬ P2 g) := Lib.hid (fun hb => (HP2.out g hb).2.1 rfl)
      have HO4 := Lib.hid hO4
      have HT4 := Lib.hid ht4
      have HP4 := Lib.hid hP4
      have HG4 : Hid (¬ P4 g) := Lib.hid (fun hb => (HP4.out g hb).2.1 rfl)
      have HO6 := Lib.hid hO6
      have HT6 := Lib.hid ht6
      have HP6 := Lib.hid hP6
      have HG6 : Hid (¬ P6 g) := Lib.hid (fun hb => (HP6.out g hb).2.1 rfl)
      have HD2x4 := Lib.hid hd2x4
      have HD2x6 := Lib.hid hd2x6
      have HD4x6 := Lib.hid hd4x6
      have HPUT := Lib.hid hput
      have HZ := Lib.hid hzi
      have HCN := Lib.hid hcn
      have HBR := Lib.hid hBr
      have HSZ := Lib.hid hsz
      have HRg : Hid (¬ Br g) := Lib.hid (fun hb => (hBr g hb).2 rfl)
      have HBg := Lib.hid hBg
      have HYZ := Lib.hid hyz
      clear hh hput hcell hfr hzi hdi hOd hcn hBi hBr hO hlen hsz hyz hO2 ht2 hp2 hP2 hl2 hm2 hO4 ht4 hp4 hP4 hl4 hm4 hO6 ht6 hp6 hP6 hl6 hm6 hd2x4 hd2x6 hd4x6
      have r0 : wr.cell? ⟨g, i * 7, none⟩ = some (.int .i64 f0) := HX.out.cell HSZ.out (j := 0) rfl rfl
      have q0 : wr.frozen? ⟨g, i * 7, none⟩ = false := HX.out.frozen _
      have r1 : wr.cell? ⟨g, i * 7 + 1, none⟩ = some (.bool f1) := HX.out.cell HSZ.out (j := 1) rfl rfl
      have q1 : wr.frozen? ⟨g, i * 7 + 1, none⟩ = false := HX.out.frozen _
      have r2 : wr.cell? ⟨g, i * 7 + 2, none⟩ = some (.slice A2 n2 c2) := HX.out.cell HSZ.out (j := 2) rfl rfl
      have q2 : wr.frozen? ⟨g, i * 7 + 2, none⟩ = false := HX.out.frozen _
      go_wp2_with fail
      refine (markExportS L2 A2 n2 c2 _ P2 _ ((HO2.out.far (p := i * 7) (v := .int .i64 (y)) HG2.out).far (p := i * 7 + 1) (v := .bool ((y + 1) % 3 == 0)) HG2.out) HT2.out (by have hz := HYZ.out; omega) (by have hz := HYZ.out; omega) hn2).mono ?_
      rintro e w1 ⟨rfl, hO2, hT9⟩
      have HX' := Lib.hid (((HX.out.store HSZ.out HBg.out HRg.out (j := 0) (by simp) rfl (.int .i64 (y))).store HSZ.out HBg.out HRg.out (j := 1) (by simp) rfl (.bool ((y + 1) % 3 == 0))).touch hT9 HP2.out)
      replace HO4 := Lib.hid (((HO4.out.far (p := i * 7) (v := .int .i64 (y)) HG4.out).far (p := i * 7 + 1) (v := .bool ((y + 1) % 3 == 0)) HG4.out).touch hT9 (fun b h1 h2 => HD2x4.out b h2 h1))
      replace HO6 := Lib.hid (((HO6.out.far (p := i * 7) (v := .int .i64 (y)) HG6.out).far (p := i * 7 + 1) (v := .bool ((y + 1) % 3 == 0)) HG6.out).touch hT9 (fun b h1 h2 => HD2x6.out b h2 h1))
      replace HO2 := Lib.hid hO2
      replace HX := HX'
      clear hT9 hO2 HX' r0 q0 r1 q1 r2 q2
      obtain ⟨y1, hy1⟩ : ∃ u : Int, u = y + 1 + 1 + cntAll L2 := ⟨_, rfl⟩
      rw [← hy1]
      have HY1 := Lib.hid hy1
      have hp1 : 0 < y1 := by omega
      have hq1 : y1 + 2 ≤ 1099511627776 := by have hz := HYZ.out; omega
      clear hy1
      have r3 : w1.cell? ⟨g, i * 7 + 3, none⟩ = some (.int .i64 f3) := HX.out.cell HSZ.out (j := 3) rfl rfl
      have q3 : w1.frozen? ⟨g, i * 7 + 3, none⟩ = false := HX.out.frozen _
      have r4 : w1.cell? ⟨g, i * 7 + 4, none⟩ = some (.slice A4 n4 c4) := HX.out.cell HSZ.out (j := 4) rfl rfl
      have q4 : w1.frozen? ⟨g, i * 7 + 4, none⟩ = false := HX.out.frozen _
      go_wp2_with fail
      refine (markQuestionS L4 A4 n4 c4 _ P4 _ (HO4.out.far (p := i * 7 + 3) (v := .int .i64 (y1)) HG4.out) HT4.out (by have eHY1 := HY1.out; have hz := HYZ.out; omega) (by have eHY1 := HY1.out; have hz := HYZ.out; omega) hn4).mono ?_
      rintro e w2 ⟨rfl, hO4, hT9⟩
      have HX' := Lib.hid ((HX.out.store HSZ.out HBg.out HRg.out (j := 3) (by simp) rfl (.int .i64 (y1))).touch hT9 HP4.out)
      replace HO2 := Lib.hid ((HO2.out.far (p := i * 7 + 3) (v := .int .i64 (y1)) HG2.out).touch hT9 (fun b h1 h2 => HD2x4.out b h1 h2))
      replace HO6 := Lib.hid ((HO6.out.far (p := i * 7 + 3) (v := .int .i64 (y1)) HG6.out).touch hT9 (fun b h1 h2 => HD4x6.out b h2 h1))
      replace HO4 := Lib.hid hO4
      replace HX := HX'
      clear hT9 hO4 HX' r3 q3 r4 q4
      obtain ⟨y2, hy2⟩ : ∃ u : Int, u = y1 + 1 + cntAll L4 := ⟨_, rfl⟩
      rw [← hy2]
      have HY2 := Lib.hid hy2
      have hp2 : 0 < y2 := by have eHY1 := HY1.out; omega
      have hq2 : y2 + 1 ≤ 1099511627776 := by have eHY1 := HY1.out; have hz := HYZ.out; omega
      clear hy2
      have r5 : w2.cell? ⟨g, i * 7 + 5, none⟩ = some (.int .i64 f5) := HX.out.cell HSZ.out (j := 5) rfl rfl
      have q5 : w2.frozen? ⟨g, i * 7 + 5, none⟩ = false := HX.out.frozen _
      have r6 : w2.cell? ⟨g, i * 7 + 6, none⟩ = some (.slice A6 n6 c6) := HX.out.cell HSZ.out (j := 6) rfl rfl
      have q6 : w2.frozen? ⟨g, i * 7 + 6, none⟩ = false := HX.out.frozen _
      go_wp2_with fail
      refine (markQuestionS L6 A6 n6 c6 _ P6 _ (HO6.out.far (p := i * 7 + 5) (v := .int .i64 (y2)) HG6.out) HT6.out (by have eHY1 := HY1.out; have eHY2 := HY2.out; have hz := HYZ.out; omega) (by have eHY1 := HY1.out; have eHY2 := HY2.out; have hz := HYZ.out; omega) hn6).mono ?_
      rintro e w3 ⟨rfl, hO6, hT9⟩
      have HX' := Lib.hid ((HX.out.store HSZ.out HBg.out HRg.out (j := 5) (by simp) rfl (.int .i64 (y2))).touch hT9 HP6.out)
      replace HO2 := Lib.hid ((HO2.out.far (p := i * 7 + 5) (v := .int .i64 (y2)) HG2.out).touch hT9 (fun b h1 h2 => HD2x6.out b h1 h2))
      replace HO4 := Lib.hid ((HO4.out.far (p := i * 7 + 5) (v := .int .i64 (y2)) HG4.out).touch hT9 (fun b h1 h2 => HD4x6.out b h1 h2))
      replace HO6 := Lib.hid hO6
      replace HX := HX'
      clear hT9 hO6 HX' r5 q5 r6 q6
      obtain ⟨y3, hy3⟩ : ∃ u : Int, u = y2 + 1 + cntAll L6 := ⟨_, rfl⟩
      rw [← hy3]
      have HY3 := Lib.hid hy3
      have hp3 : 0 < y3 := by have eHY1 := HY1.out; have eHY2 := HY2.out; omega
      have hq3 : y3 + 0 ≤ 1099511627776 := by have eHY1 := HY1.out; have eHY2 := HY2.out; have hz := HYZ.out; omega
      clear hy3
      go_wp2_with fail
      go_roundw
      case rel =>
        have X9 := HX.out
        have O2 := HO2.out
        have O4 := HO4.out
        have O6 := HO6.out
        obtain ⟨cur9, c9, l9⟩ := X9.c
        refine ⟨i + 1, _, by omega, by go_num, rfl, ?_, ?_, HTo.out.trans X9.t⟩
        · have h1 := HY.out
          have h2 := HCN.out
          have eHY1 := HY1.out; have eHY2 := HY2.out; have eHY3 := HY3.out; omega
        · rw [← half_set HZ.out, ← HY.out, mkdLink]
          have eHY1 := HY1.out; have eHY2 := HY2.out; have eHY3 := HY3.out; skip
          refine (HPUT.out _ _ _ (fun b => P2 b ∨ P4 b ∨ P6 b ∨ False) cur9 rfl ?_ (fun b hb => ?_) c9 l9 X9.r).mono (fun b hb => ?_)
          · refine Eq.mp (congrArg (fun cs => Owns _ _ cs _) ?_) (ownPLink (f0 := y) (f1 := (y + 1) % 3 == 0) (L2 := mkAll L2 (y + 2)) (f3 := y + 2 + cntAll L2) (L4 := mkAll L4 (y + 3 + cntAll L2)) (f5 := y + 3 + cntAll L2 + cntAll L4) (L6 := mkAll L6 (y + 4 + cntAll L2 + cntAll L4)) (show Owns _ (.l (mkAll L2 (y + 2))) _ _ from Eq.mp (congrArg (fun u : Int => Owns _ (.l (mkAll L2 u)) _ _) (by omega)) O2) (show Owns _ (.l (mkAll L4 (y + 3 + cntAll L2))) _ _ from Eq.mp (congrArg (fun u : Int => Owns _ (.l (mkAll L4 u)) _ _) (by omega)) O4) (show Owns _ (.l (mkAll L6 (y + 4 + cntAll L2 + cntAll L4))) _ _ from Eq.mp (congrArg (fun u : Int => Owns _ (.l (mkAll L6 u)) _ _) (by omega)) O6) HD2x4.out HD2x6.out HD4x6.out)
            simp only [List.set]
            exact (cons_eq (congrArg (Value.int .i64) (by omega)) (cons_eq (congrArg (fun u : Int => Value.bool (u % 3 == 0)) (by omega)) (cons_eq rfl (cons_eq (congrArg (Value.int .i64) (by omega)) (cons_eq rfl (cons_eq (congrArg (Value.int .i64) (by omega)) (cons_eq rfl rfl)))))))
          · rcases hb with hb | hb | hb | hb
            · exact (HP2.out b hb).2
            · exact (HP4.out b hb).2
            · exact (HP6.out b hb).2
            · exact hb.elim
          · rcases hb with rfl | hb | hb | hb | hb | hb
            · exact HBg.out
            · exact (HBR.out b hb).1
            · exact (HP2.out b hb).1
            · exact (HP4.out b hb).1
            · exact (HP6.out b hb).1
            · exact hb.elim
      case measure => simp [intOf]; omega
    · obtain rfl : i = n := by omega
      have HM : Hid (MarkedD L A i c z B w (.returned (.int .i64 y)) wr) := Lib.hid ⟨by rw [HY.out, List.take_of_length_le (by have := HC.out; omega)], by rw [half_all HC.out] at hO; exact hO, HTo.out⟩
      clear hO
      go_wp2_with fail
      go_ret
      exact HM.out
set_option maxRecDepth 100000 in
set_option maxHeartbeats 8000000 in
theorem heldLinkS (L : List Dat) (A : Option Addr) (n c : Nat) (z : Int) (w : World) (h : Lies w (.l (mkAll L z)) [.slice A n c]) (ht : ∀ x ∈ L, Has tyLink x) (h0 : 0 < z) (h1 : z + cntAll L ≤ 1099511627776) (hn : n ≤ 1099511627776) :
    Calls Try.prog 83 #[.slice A n c, .int .i64 z] w (GivesInt (z + cntAll L) w) := by
  have HT := Lib.hid ht
  have hc := h.count
  rw [mkAll_len] at hc
  have HC := Lib.hid hc
  have H := Lib.hid h
  have H1 := Lib.hid h1
  have hk : ∀ x ∈ mkAll L z, x.width = 7 := fun x hx => by
    obtain ⟨j, hj, rfl⟩ := List.getElem_of_mem hx
    have hjl : j < L.length := by rw [mkAll_len] at hj; exact hj
    have e := mkAll_at (z := z) (List.getElem?_eq_getElem hjl)
    rw [List.getElem?_eq_getElem hj] at e
    rw [Option.some.inj e, mkd_width]
    exact (ht _ (List.getElem_mem hjl)).width
  have HK := Lib.hid hk
  clear h ht h1 hc hk
  go_enter Try.func83, Try.ntmps83
  go_wp2
  go_loopw [1, 5] (fun zv iv wr => ∃ (i : Nat) (y : Int), i ≤ n ∧ iv = .int .i64 i ∧ zv = .int .i64 y ∧ y = z + cntAll (L.take i) ∧ Below w.heap.size w wr) (fun _ iv _ => n - (intOf iv).toNat)
  case atStart => exact ⟨0, z, Nat.zero_le _, rfl, rfl, by simp [cntAll], Below.refl _ _⟩
  case round =>
    obtain ⟨i, y, hin, rfl, rfl, hy, hb⟩ := hrel
    have HY := Lib.hid hy
    have HB := Lib.hid hb
    clear hy hb
    by_cases hlt : i < n
    · have hzi : L[i]? = some (L[i]'(by have := HC.out; omega)) := List.getElem?_eq_getElem (by have := HC.out; omega)
      generalize L[i]'(by have := HC.out; omega) = d at hzi
      obtain ⟨b, off, d', xs, rfl, hbw, hdi, hlie, hlen, hcell⟩ := (H.out.below HB.out).elem HK.out hlt
      obtain rfl : mkd d (z + cntAll (L.take i)) = d' := by rw [mkAll_at hzi] at hdi; exact Option.some.inj hdi
      rw [← HY.out] at hlie
      obtain ⟨ds, rfl, hds⟩ := HT.out d (List.mem_of_getElem? hzi)
      simp only [HasAll] at hds
      obtain ⟨d0, r0, rfl, ⟨f0, rfl, -, -⟩, d1, r1, rfl, ⟨f1, rfl⟩, d2, r2, rfl, ⟨L2, rfl, hm2, ht2⟩, d3, r3, rfl, ⟨f3, rfl, -, -⟩, d4, r4, rfl, ⟨L4, rfl, hm4, ht4⟩, d5, r5, rfl, ⟨f5, rfl, -, -⟩, d6, r6, rfl, ⟨L6, rfl, hm6, ht6⟩, rfl⟩ := hds
      rw [mkdLink] at hlie
      simp only [Lies, LiesAll] at hlie
      obtain ⟨e0, q0, rfl, rfl, e1, q1, rfl, rfl, e2, q2, rfl, ⟨A2, m2, c2, rfl, hn2, hh2⟩, e3, q3, rfl, rfl, e4, q4, rfl, ⟨A4, m4, c4, rfl, hn4, hh4⟩, e5, q5, rfl, rfl, e6, q6, rfl, ⟨A6, m6, c6, rfl, hn6, hh6⟩, rfl⟩ := hlie
      have hcn : (cntAll (L.take (i + 1)) : Int) = cntAll (L.take i) + (0 + 4 + cntAll L2 + cntAll L4 + cntAll L6) := by rw [← cntLink (f0 := f0) (f1 := f1) (L2 := L2) (f3 := f3) (L4 := L4) (f5 := f5) (L6 := L6)]; have := cnt_next hzi; omega
      have hcl := cnt_take_le L (i + 1)
      have hyz : y + 4 + cntAll L2 + cntAll L4 + cntAll L6 ≤ 1099511627776 := by have h1 := HY.out; have h2 := H1.out; omega
      have hy0 : 0 < y := by have := HY.out; omega
      have hyt : y + 4 ≤ 1099511627776 := by omega
      have HL2 : Hid (Lies wr (.l (mkAll L2 (y + 2))) [.slice A2 m2 c2]) := Lib.hid (by rw [Lies]; exact ⟨A2, m2, c2, rfl, hn2, hh2⟩)
      have hu2 : m2 ≤ 1099511627776 := by have h1 := len_le_cntD (fun x hx => cntposExport (ht2 x hx)); rw [mkAll_len] at hn2; omega
      have HT2 := Lib.hid ht2
      have HL4 : Hid (Lies wr (.l (mkAll L4 (y + 3 + cntAll L2))) [.slice A4 m4 c4]) := Lib.hid (by rw [Lies]; exact ⟨A4, m4, c4, rfl, hn4, hh4⟩)
      have hu4 : m4 ≤ 1099511627776 := by have h1 := len_le_cntD (fun x hx => cntposQuestion (ht4 x hx)); rw [mkAll_len] at hn4; omega
      have HT4 := Lib.hid ht4
      have HL6 : Hid (Lies wr (.l (mkAll L6 (y + 4 + cntAll L2 + cntAll L4))) [.slice A6 m6 c6]) := Lib.hid (by rw [Lies]; exact ⟨A6, m6, c6, rfl, hn6, hh6⟩)
      have hu6 : m6 ≤ 1099511627776 := by have h1 := len_le_cntD (fun x hx => cntposQuestion (ht6 x hx)); rw [mkAll_len] at hn6; omega
      have HT6 := Lib.hid ht6
      have s0 : wr.cell? ⟨b, off + i * 7, none⟩ = some (.int .i64 (y)) := hcell 0 _ rfl
      have s1 : wr.cell? ⟨b, off + i * 7 + 1, none⟩ = some (.bool ((y + 1) % 3 == 0)) := hcell 1 _ rfl
      have s2 : wr.cell? ⟨b, off + i * 7 + 2, none⟩ = some (.slice A2 m2 c2) := hcell 2 _ rfl
      have s3 : wr.cell? ⟨b, off + i * 7 + 3, none⟩ = some (.int .i64 (y + 2 + cntAll L2)) := hcell 3 _ rfl
      have s4 : wr.cell? ⟨b, off + i * 7 + 4, none⟩ = some (.slice A4 m4 c4) := hcell 4 _ rfl
      have s5 : wr.cell? ⟨b, off + i * 7 + 5, none⟩ = some (.int .i64 (y + 3 + cntAll L2 + cntAll L4)) := hcell 5 _ rfl
      have s6 : wr.cell? ⟨b, off + i * 7 + 6, none⟩ = some (.slice A6 m6 c6) := hcell 6 _ rfl
      have HCN := Lib.hid hcn
      have HYZ := Lib.hid hyz
      have HS : Hid (wr.cell? ⟨b, off + i * 7, none⟩ = some (.int .i64 (y)) ∧ wr.cell? ⟨b, off + i * 7 + 1, none⟩ = some (.bool ((y + 1) % 3 == 0)) ∧ wr.cell? ⟨b, off + i * 7 + 2, none⟩ = some (.slice A2 m2 c2) ∧ wr.cell? ⟨b, off + i * 7 + 3, none⟩ = some (.int .i64 (y + 2 + cntAll L2)) ∧ wr.cell? ⟨b, off + i * 7 + 4, none⟩ = some (.slice A4 m4 c4) ∧ wr.cell? ⟨b, off + i * 7 + 5, none⟩ = some (.int .i64 (y + 3 + cntAll L2 + cntAll L4)) ∧ wr.cell? ⟨b, off + i * 7 + 6, none⟩ = some (.slice A6 m6 c6)) := Lib.hid ⟨s0, s1, s2, s3, s4, s5, s6⟩
      have HBW := Lib.hid hbw
      clear hcn hzi hdi hlen hcell hyz s0 s1 s2 s3 s4 s5 s6 ht2 hm2 hn2 hh2 ht4 hm4 hn4 hh4 ht6 hm6 hn6 hh6
      have HQ : Hid (Below wr.heap.size wr wr) := Lib.hid (Below.refl _ _)
      have r0 : wr.cell? ⟨b, off + i * 7, none⟩ = some (.int .i64 (y)) := by rw [show y = y by omega]; exact (HQ.out.cell (p := ⟨b, off + i * 7, none⟩) HBW.out).trans HS.out.1
      have r1 : wr.cell? ⟨b, off + i * 7 + 1, none⟩ = some (.bool ((y + 1) % 3 == 0)) := by rw [show y + 1 = y + 1 by omega]; exact (HQ.out.cell (p := ⟨b, off + i * 7 + 1, none⟩) HBW.out).trans HS.out.2.1
      have r2 : wr.cell? ⟨b, off + i * 7 + 2, none⟩ = some (.slice A2 m2 c2) := (HQ.out.cell (p := ⟨b, off + i * 7 + 2, none⟩) HBW.out).trans HS.out.2.2.1
      go_wp2_with fail
      refine (heldExportS L2 A2 m2 c2 _ _ (Eq.mp (congrArg (fun u : Int => Lies _ (.l (mkAll L2 u)) _) (by omega)) (HL2.out.below HQ.out)) HT2.out (by have hz := HYZ.out; omega) (by have hz := HYZ.out; omega) hu2).mono ?_
      rintro e w1 ⟨rfl, hb⟩
      replace HQ := Lib.hid (HQ.out.trans (hb.mono HQ.out.size))
      clear hb r0 r1 r2
      obtain ⟨y1, hy1⟩ : ∃ u : Int, u = y + 1 + 1 + cntAll L2 := ⟨_, rfl⟩
      rw [← hy1]
      have HY1 := Lib.hid hy1
      have hp1 : 0 ≤ y1 := by omega
      have hq1 : y1 + 2 ≤ 1099511627776 := by have hz := HYZ.out; omega
      clear hy1
      have r3 : w1.cell? ⟨b, off + i * 7 + 3, none⟩ = some (.int .i64 (y1)) := by have eHY1 := HY1.out; rw [show y1 = y + 2 + cntAll L2 by omega]; exact (HQ.out.cell (p := ⟨b, off + i * 7 + 3, none⟩) HBW.out).trans HS.out.2.2.2.1
      have r4 : w1.cell? ⟨b, off + i * 7 + 4, none⟩ = some (.slice A4 m4 c4) := (HQ.out.cell (p := ⟨b, off + i * 7 + 4, none⟩) HBW.out).trans HS.out.2.2.2.2.1
      go_wp2_with fail
      refine (heldQuestionS L4 A4 m4 c4 _ _ (Eq.mp (congrArg (fun u : Int => Lies _ (.l (mkAll L4 u)) _) (by have eHY1 := HY1.out; omega)) (HL4.out.below HQ.out)) HT4.out (by have eHY1 := HY1.out; have hz := HYZ.out; omega) (by have eHY1 := HY1.out; have hz := HYZ.out; omega) hu4).mono ?_
      rintro e w2 ⟨rfl, hb⟩
      replace HQ := Lib.hid (HQ.out.trans (hb.mono HQ.out.size))
      clear hb r3 r4
      obtain ⟨y2, hy2⟩ : ∃ u : Int, u = y1 + 1 + cntAll L4 := ⟨_, rfl⟩
      rw [← hy2]
      have HY2 := Lib.hid hy2
      have hp2 : 0 ≤ y2 := by have eHY1 := HY1.out; omega
      have hq2 : y2 + 1 ≤ 1099511627776 := by have eHY1 := HY1.out; have hz := HYZ.out; omega
      clear hy2
      have r5 : w2.cell? ⟨b, off + i * 7 + 5, none⟩ = some (.int .i64 (y2)) := by have eHY1 := HY1.out; have eHY2 := HY2.out; rw [show y2 = y + 3 + cntAll L2 + cntAll L4 by omega]; exact (HQ.out.cell (p := ⟨b, off + i * 7 + 5, none⟩) HBW.out).trans HS.out.2.2.2.2.2.1
      have r6 : w2.cell? ⟨b, off + i * 7 + 6, none⟩ = some (.slice A6 m6 c6) := (HQ.out.cell (p := ⟨b, off + i * 7 + 6, none⟩) HBW.out).trans HS.out.2.2.2.2.2.2
      go_wp2_with fail
      refine (heldQuestionS L6 A6 m6 c6 _ _ (Eq.mp (congrArg (fun u : Int => Lies _ (.l (mkAll L6 u)) _) (by have eHY1 := HY1.out; have eHY2 := HY2.out; omega)) (HL6.out.below HQ.out)) HT6.out (by have eHY1 := HY1.out; have eHY2 := HY2.out; have hz := HYZ.out; omega) (by have eHY1 := HY1.out; have eHY2 := HY2.out; have hz := HYZ.out; omega) hu6).mono ?_
      rintro e w3 ⟨rfl, hb⟩
      replace HQ := Lib.hid (HQ.out.trans (hb.mono HQ.out.size))
      clear hb r5 r6
      obtain ⟨y3, hy3⟩ : ∃ u : Int, u = y2 + 1 + cntAll L6 := ⟨_, rfl⟩
      rw [← hy3]
      have HY3 := Lib.hid hy3
      have hp3 : 0 ≤ y3 := by have eHY1 := HY1.out; have eHY2 := HY2.out; omega
      have hq3 : y3 + 0 ≤ 1099511627776 := by have eHY1 := HY1.out; have eHY2 := HY2.out; have hz := HYZ.out; omega
      clear hy3
      go_wp2_with fail
      go_roundw
      case rel =>
        refine ⟨i + 1, _, by omega, by go_num, rfl, ?_, HB.out.trans (HQ.out.mono HB.out.size)⟩
        have h1 := HY.out
        have h2 := HCN.out
        have eHY1 := HY1.out; have eHY2 := HY2.out; have eHY3 := HY3.out; omega
      case measure => simp [intOf]; omega
    · obtain rfl : i = n := by omega
      have HE : Hid (y = z + cntAll L) := Lib.hid (by rw [HY.out, List.take_of_length_le (by have := HC.out; omega)])
      go_wp2_with fail
      go_ret
      exact GivesInt.ret HE.out HB.out
end Go.Proofs.Ytmeacgpebpfpbaa
