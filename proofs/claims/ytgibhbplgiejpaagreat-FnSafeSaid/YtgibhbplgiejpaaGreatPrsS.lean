/- The reference's ParseInstr. -/
import Derived.Test.YtgibhbplgiejpaaGreatPrsA
namespace Go.Proofs.YtgibhbplgiejpaaGreat
open Go.RowKit
set_option linter.unusedVariables false
set_option linter.unusedSimpArgs false
theorem specNumV (ws : List (List UInt8)) (A : Option Addr) (n c i : Nat) (z : Int) (r : Int) (w : World) (hz : z = i) (h : Words w A n ws) (hi : i ≤ 9223372036854775807) (hn : n ≤ 9223372036854775807) (hs : ∀ x ∈ ws, x.length ≤ 140737488351232) (hr : numW ws i = r) : Calls Tryz.prog 121 #[.slice A n c, .int .i64 z] w (GivesInt r w) := by
  subst hz hr
  exact specNumW ws A n c i w h hi hn hs
theorem numW_range (ws : List (List UInt8)) (i : Nat) : -1 ≤ numW ws i ∧ numW ws i ≤ 1000000000000 := by
  unfold numW
  split
  · omega
  · split
    · rename_i h
      have := (pok_iff.1 h).1
      omega
    · omega
/-- The result's box, the instruction's, the words. -/
def PS (W : World) (g : Nat) (ws : List (List UInt8)) (A : Option Addr) (n : Nat) (x : I) (wr : World) : Prop := Zb W.heap.size W.heap.size zero6 wr ∧ Zb W.heap.size g (six6 x) wr ∧ Below W.heap.size W wr ∧ (W.heap.size < g ∧ ∃ w1 : World, Words w1 A n ws ∧ Below w1.heap.size w1 wr ∧ w1.heap.size ≤ g)
section
variable {W wr w' : World} {g n : Nat} {x : I} {ws : List (List UInt8)} {A : Option Addr}
theorem PS.below (h : PS W g ws A n x wr) (hb : Below wr.heap.size wr w') : PS W g ws A n x w' := ⟨h.1.below hb, h.2.1.below hb, h.2.2.1.trans (hb.mono h.2.2.1.size), h.2.2.2.1, h.2.2.2.2.elim fun w1 k => ⟨w1, k.1, k.2.1.trans (hb.mono k.2.1.size), k.2.2⟩⟩
theorem PS.words (h : PS W g ws A n x wr) : Words wr A n ws := h.2.2.2.2.elim fun w1 k => k.1.below k.2.1
theorem PS.put {y : I} (h : PS W g ws A n x wr) (j : Nat) (hj : j < 6) (u : Value) (e : (six6 x).set j u = six6 y) : PS W g ws A n y (wr.setCell ⟨g, j, none⟩ u) := by
  have hg := h.2.2.2.1
  refine ⟨h.1.far (by omega) u, e ▸ h.2.1.set (by exact hj) u, h.2.2.1.setCell (by show W.heap.size ≤ g; omega) u, hg, h.2.2.2.2.elim fun w1 k => ⟨w1, k.1, k.2.1.setCell k.2.2 u, k.2.2⟩⟩
theorem PS.cells (h : PS W g ws A n x wr) : (wr.cell? ⟨g, 0, none⟩ = some (.int .i64 x.op) ∧ wr.cell? ⟨g, 1, none⟩ = some (.int .i64 x.a) ∧ wr.cell? ⟨g, 2, none⟩ = some (.int .i64 x.b) ∧ wr.cell? ⟨g, 3, none⟩ = some (.int .i64 x.c) ∧ wr.cell? ⟨g, 4, none⟩ = some (.int .i64 x.d) ∧ wr.cell? ⟨g, 5, none⟩ = some (.string x.name)) ∧
    wr.frozen? ⟨g, 0, none⟩ = false ∧ wr.frozen? ⟨g, 1, none⟩ = false ∧ wr.frozen? ⟨g, 2, none⟩ = false ∧ wr.frozen? ⟨g, 3, none⟩ = false ∧ wr.frozen? ⟨g, 4, none⟩ = false ∧ wr.frozen? ⟨g, 5, none⟩ = false :=
  Zb.six (B := W.heap.size) h.2.1
theorem PS.res (h : PS W g ws A n x wr) : Zb W.heap.size W.heap.size [.int .i64 0, .int .i64 0, .int .i64 0, .int .i64 0, .int .i64 0, .string ⟨#[]⟩] wr := h.1
end
theorem cand_one {ws : List (List UInt8)} {op a : Int} (h : opW (ws.headD []) = op) (ho : op = 4 ∨ op = 10) (ha : numW ws 1 = a) : candI ws = ⟨op, a, 0, 0, 0, ⟨#[]⟩⟩ := by
  unfold candI; simp only [h, ha, if_pos ho]
theorem cand_add {ws : List (List UInt8)} {a b c : Int} (h : opW (ws.headD []) = 5) (ha : numW ws 1 = a) (hb : numW ws 2 = b) (hc : numW ws 3 = c) : candI ws = ⟨5, a, b, c, 0, ⟨#[]⟩⟩ := by
  unfold candI; simp only [h, ha, hb, hc]; rfl
theorem cand_send {ws : List (List UInt8)} {a b c d : Int} {nm : ByteArray} (h : opW (ws.headD []) = 6) (ha : numW ws 1 = a) (hb : numW ws 2 = b) (hc : numW ws 4 = c) (hd : numW ws 5 = d) (hn : strW ws 3 = nm) : candI ws = ⟨6, a, b, c, d, nm⟩ := by
  unfold candI; simp only [h, ha, hb, hc, hd, hn]; rfl
theorem cand_new {ws : List (List UInt8)} {a c d : Int} {nm : ByteArray} (h : opW (ws.headD []) = 7) (ha : numW ws 1 = a) (hc : numW ws 3 = c) (hd : numW ws 4 = d) (hn : strW ws 2 = nm) : candI ws = ⟨7, a, 0, c, d, nm⟩ := by
  unfold candI; simp only [h, ha, hc, hd, hn]; rfl
theorem cand_two {ws : List (List UInt8)} {op a b : Int} (h : opW (ws.headD []) = op) (ho : ¬ (op = 4 ∨ op = 10) ∧ ¬ op = 5 ∧ ¬ op = 6 ∧ ¬ op = 7) (ha : numW ws 1 = a) (hb : numW ws 2 = b) : candI ws = ⟨op, a, b, 0, 0, ⟨#[]⟩⟩ := by
  unfold candI; simp only [h, ha, hb, if_neg ho.1, if_neg ho.2.1, if_neg ho.2.2.1, if_neg ho.2.2.2]
/-- What the candidate decides. -/
structure Decides (s : List UInt8) (x : I) : Prop where
  yes : isI x = true → fmtI x = s → parseI s = some x
  no : (isI x = true → fmtI x ≠ s) → parseI s = none
theorem Decides.of {s : List UInt8} {x : I} (h : candI (splitB 32 s) = x) : Decides s x := by
  subst h
  exact ⟨fun h1 h2 => parse_iff.2 ⟨h1, h2⟩, fun h => cand_none h⟩
set_option maxRecDepth 100000 in
set_option maxHeartbeats 16000000 in
theorem specPrs4 (s : ByteArray) (w : World) (hs : s.size ≤ 1099511627776) (HOP : Hid (opW ((splitB 32 s.data.toList).headD []) = 4)) (hl : ∀ x ∈ splitB 32 s.data.toList, x.length ≤ 140737488351232) (a : Int) (Ha : Hid (numW (splitB 32 s.data.toList) 1 = a)) :
    Calls Tryz.prog 110 #[.string s] w (GivesPI (parseI s.data.toList) w) := by
  have HD : Hid (Decides s.data.toList ⟨4, a, 0, 0, 0, ⟨#[]⟩⟩) := Lib.hid (Decides.of (cand_one HOP.out (Or.inl rfl) Ha.out))
  have hnm : (⟨#[]⟩ : ByteArray).size ≤ 140737488351232 := Nat.zero_le _
  have HL0 := Lib.hid hl
  have Z0 := Lib.hid (Zb.new (B := w.heap.size) w #[.int .i64 0, .int .i64 0, .int .i64 0, .int .i64 0, .int .i64 0, .string ⟨#[]⟩] 32 (Nat.le_refl _))
  have B0 : Hid (Below w.heap.size w (w.alloc (.cells #[.int .i64 0, .int .i64 0, .int .i64 0, .int .i64 0, .int .i64 0, .string ⟨#[]⟩] 32))) := Lib.hid (by go_grown)
  have hlen := split_len 32 s.data.toList
  have hsl : s.data.toList.length = s.size := rfl
  rw [hsl] at hlen
  have hne : 1 ≤ (splitB 32 s.data.toList).length := List.length_pos_iff.2 (split_ne 32 s.data.toList)
  clear hsl hl
  generalize hws : splitB 32 s.data.toList = ws at *
  have HWS := Lib.hid hws
  clear hws
  go_enter Tryz.func110, Tryz.ntmps110
  go_wp2_with fail
  refine (specSplit s 32 _ hs).mono ?_
  rintro e w1 ⟨A1, n1, c1, rfl, hW1, hb⟩
  rw [HWS.out] at hW1
  have HW1 := Lib.hid hW1
  have hn1 : n1 ≤ 1099511627777 := by rw [← hW1.1]; omega
  have hn0 : 0 < n1 := by rw [← hW1.1]; omega
  replace Z0 := Lib.hid (Z0.out.below hb)
  replace B0 := Lib.hid (B0.out.trans (hb.mono B0.out.size))
  clear hb hW1
  obtain ⟨b0, off0, x0, rfl, hb0w, hx0, hc0⟩ := HW1.out.at_ hn0
  have HH : Hid (opW (strB x0).data.toList = 4) := Lib.hid (by rw [← HOP.out]; cases ws with
    | nil => cases hx0
    | cons y ws => simp at hx0; subst hx0; rfl)
  clear hx0
  rw [Nat.add_zero] at hc0
  go_wp2_with fail
  refine (specOpW (strB x0) _).mono ?_
  rintro e w2 ⟨rfl, hb⟩
  rw [HH.out]
  have HW2 := Lib.hid (HW1.out.below hb)
  replace Z0 := Lib.hid (Z0.out.below hb)
  replace B0 := Lib.hid (B0.out.trans (hb.mono B0.out.size))
  clear hb hc0
  go_wp2_with fail
  refine (specNumV ws _ n1 c1 1 1 a _ rfl HW2.out (by omega) (by omega) HL0.out Ha.out).mono ?_
  rintro e w3 ⟨rfl, hb⟩
  have HW3 := Lib.hid (HW2.out.below hb)
  replace Z0 := Lib.hid (Z0.out.below hb)
  replace B0 := Lib.hid (B0.out.trans (hb.mono B0.out.size))
  clear hb
  have X : Hid (PS w w3.heap.size ws (some ⟨b0, off0, none⟩) n1 ⟨4, a, 0, 0, 0, ⟨#[]⟩⟩ (w3.alloc (.cells #[.int .i64 4, .int .i64 a, .int .i64 0, .int .i64 0, .int .i64 0, .string ⟨#[]⟩] 32))) := Lib.hid ⟨Z0.out.below ((Below.refl _ _).alloc (Nat.le_refl _) _), Zb.new (B := w.heap.size) w3 #[.int .i64 4, .int .i64 a, .int .i64 0, .int .i64 0, .int .i64 0, .string ⟨#[]⟩] 32 B0.out.size, B0.out.alloc B0.out.size _, Z0.out.2.1.1, w3, HW3.out, (Below.refl _ _).alloc (Nat.le_refl _) _, Nat.le_refl _⟩
  clear Z0 B0 HW1 HW2 HW3
  obtain ⟨⟨k0, k1, k2, k3, k4, k5⟩, f0, f1, f2, f3, f4, f5⟩ := X.out.cells
  
  generalize hiv : isI ⟨4, a, 0, 0, 0, ⟨#[]⟩⟩ = v at *
  have HVV := Lib.hid hiv
  clear hiv
  go_wp2_with fail
  refine (specIs ⟨4, a, 0, 0, 0, ⟨#[]⟩⟩ _ hnm).mono ?_
  rintro e w6 ⟨rfl, hb⟩
  rw [HVV.out]
  replace X := Lib.hid (X.out.below hb)
  clear hb
  cases v with
  | false =>
    have HN := Lib.hid (HD.out.no (fun h => by rw [HVV.out] at h; cases h))
    clear k0 k1 k2 k3 k4 k5 f0 f1 f2 f3 f4 f5
    obtain ⟨⟨z0, z1, z2, z3, z4, z5⟩, y0, y1, y2, y3, y4, y5⟩ := X.out.res.six
    have HQ := Lib.hid (X.out.res.put6 zeroI)
    have HBB := Lib.hid (below_put6 X.out.2.2.1 (Nat.le_refl _) zeroI)
    obtain ⟨p0, p1, p2, p3, p4, p5⟩ := HQ.out.six.1
    have HF : Hid (GivesPI (parseI s.data.toList) w (.returned (.tuple #[.agg #[.int .i64 0, .int .i64 0, .int .i64 0, .int .i64 0, .int .i64 0, .string ⟨#[]⟩], .bool false])) (put6 w6 w.heap.size zeroI)) := Lib.hid (GivesPI.none_ HN.out HBB.out)
    unfold put6 zeroI at p0 p1 p2 p3 p4 p5 HF
    simp only at p0 p1 p2 p3 p4 p5 HF
    go_wp2_with fail
    generalize ((((((w6.setCell ⟨w.heap.size, 0, none⟩ (.int .i64 0)).setCell ⟨w.heap.size, 1, none⟩ (.int .i64 0)).setCell ⟨w.heap.size, 2, none⟩ (.int .i64 0)).setCell ⟨w.heap.size, 3, none⟩ (.int .i64 0)).setCell ⟨w.heap.size, 4, none⟩ (.int .i64 0)).setCell ⟨w.heap.size, 5, none⟩ (.string ⟨#[]⟩)) = w9 at *
    refine bodyPost_ret (v := .tuple #[.agg #[.int .i64 0, .int .i64 0, .int .i64 0, .int .i64 0, .int .i64 0, .string ⟨#[]⟩], .bool false]) (by simp [results, Tryz.results110, go_sem, p0, p1, p2, p3, p4, p5]; try rfl) rfl ?_
    exact HF.out
  | true =>
    clear k0 k1 k2 k3 k4 k5 f0 f1 f2 f3 f4 f5
    obtain ⟨⟨k0, k1, k2, k3, k4, k5⟩, f0, f1, f2, f3, f4, f5⟩ := X.out.cells
    go_wp2_with fail
    refine (specFmt ⟨4, a, 0, 0, 0, ⟨#[]⟩⟩ _ hnm).mono ?_
    rintro e w7 ⟨rfl, hb⟩
    replace X := Lib.hid (X.out.below hb)
    clear hb k0 k1 k2 k3 k4 k5 f0 f1 f2 f3 f4 f5
    obtain ⟨⟨z0, z1, z2, z3, z4, z5⟩, y0, y1, y2, y3, y4, y5⟩ := X.out.res.six
    by_cases he : fmtI ⟨4, a, 0, 0, 0, ⟨#[]⟩⟩ = s.data.toList
    · have HN := Lib.hid (HD.out.yes HVV.out he)
      have hes : (⟨(fmtI ⟨4, a, 0, 0, 0, ⟨#[]⟩⟩).toArray⟩ : ByteArray) = s := by rw [he]
      rw [hes]
      have hq1 : (s.toList != s.toList) = false := by simp
      clear he hes
      obtain ⟨⟨k0, k1, k2, k3, k4, k5⟩, -⟩ := X.out.cells
      have HQ := Lib.hid (X.out.res.put6 ⟨4, a, 0, 0, 0, ⟨#[]⟩⟩)
      have HBB := Lib.hid (below_put6 X.out.2.2.1 (Nat.le_refl _) ⟨4, a, 0, 0, 0, ⟨#[]⟩⟩)
      obtain ⟨p0, p1, p2, p3, p4, p5⟩ := HQ.out.six.1
      have HF : Hid (GivesPI (parseI s.data.toList) w (.returned (.tuple #[.agg #[.int .i64 4, .int .i64 a, .int .i64 0, .int .i64 0, .int .i64 0, .string ⟨#[]⟩], .bool true])) (put6 w7 w.heap.size ⟨4, a, 0, 0, 0, ⟨#[]⟩⟩)) := Lib.hid (GivesPI.some_ HN.out HBB.out)
      unfold put6 at p0 p1 p2 p3 p4 p5 HF
      simp only at p0 p1 p2 p3 p4 p5 HF
      go_wp2_with fail
      generalize ((((((w7.setCell ⟨w.heap.size, 0, none⟩ (.int .i64 4)).setCell ⟨w.heap.size, 1, none⟩ (.int .i64 a)).setCell ⟨w.heap.size, 2, none⟩ (.int .i64 0)).setCell ⟨w.heap.size, 3, none⟩ (.int .i64 0)).setCell ⟨w.heap.size, 4, none⟩ (.int .i64 0)).setCell ⟨w.heap.size, 5, none⟩ (.string ⟨#[]⟩)) = w9 at *
      refine bodyPost_ret (v := .tuple #[.agg #[.int .i64 4, .int .i64 a, .int .i64 0, .int .i64 0, .int .i64 0, .string ⟨#[]⟩], .bool true]) (by simp [results, Tryz.results110, go_sem, p0, p1, p2, p3, p4, p5]; try rfl) rfl ?_
      exact HF.out
    · have HN := Lib.hid (HD.out.no (fun _ => he))
      have h1 := str_ne (fmt_ne he)
      have h2 := str_ne' (fmt_ne he)
      have h3 : ((⟨(fmtI ⟨4, a, 0, 0, 0, ⟨#[]⟩⟩).toArray⟩ : ByteArray).toList != s.toList) = true := by rw [bne, h1]; rfl
      generalize (⟨(fmtI ⟨4, a, 0, 0, 0, ⟨#[]⟩⟩).toArray⟩ : ByteArray) = t at *
      clear he
      have HQ := Lib.hid (X.out.res.put6 zeroI)
      have HBB := Lib.hid (below_put6 X.out.2.2.1 (Nat.le_refl _) zeroI)
      obtain ⟨p0, p1, p2, p3, p4, p5⟩ := HQ.out.six.1
      have HF : Hid (GivesPI (parseI s.data.toList) w (.returned (.tuple #[.agg #[.int .i64 0, .int .i64 0, .int .i64 0, .int .i64 0, .int .i64 0, .string ⟨#[]⟩], .bool false])) (put6 w7 w.heap.size zeroI)) := Lib.hid (GivesPI.none_ HN.out HBB.out)
      unfold put6 zeroI at p0 p1 p2 p3 p4 p5 HF
      simp only at p0 p1 p2 p3 p4 p5 HF
      go_wp2_with fail
      generalize ((((((w7.setCell ⟨w.heap.size, 0, none⟩ (.int .i64 0)).setCell ⟨w.heap.size, 1, none⟩ (.int .i64 0)).setCell ⟨w.heap.size, 2, none⟩ (.int .i64 0)).setCell ⟨w.heap.size, 3, none⟩ (.int .i64 0)).setCell ⟨w.heap.size, 4, none⟩ (.int .i64 0)).setCell ⟨w.heap.size, 5, none⟩ (.string ⟨#[]⟩)) = w9 at *
      refine bodyPost_ret (v := .tuple #[.agg #[.int .i64 0, .int .i64 0, .int .i64 0, .int .i64 0, .int .i64 0, .string ⟨#[]⟩], .bool false]) (by simp [results, Tryz.results110, go_sem, p0, p1, p2, p3, p4, p5]; try rfl) rfl ?_
      exact HF.out
set_option maxRecDepth 100000 in
set_option maxHeartbeats 16000000 in
theorem specPrs10 (s : ByteArray) (w : World) (hs : s.size ≤ 1099511627776) (HOP : Hid (opW ((splitB 32 s.data.toList).headD []) = 10)) (hl : ∀ x ∈ splitB 32 s.data.toList, x.length ≤ 140737488351232) (a : Int) (Ha : Hid (numW (splitB 32 s.data.toList) 1 = a)) :
    Calls Tryz.prog 110 #[.string s] w (GivesPI (parseI s.data.toList) w) := by
  have HD : Hid (Decides s.data.toList ⟨10, a, 0, 0, 0, ⟨#[]⟩⟩) := Lib.hid (Decides.of (cand_one HOP.out (Or.inr rfl) Ha.out))
  have hnm : (⟨#[]⟩ : ByteArray).size ≤ 140737488351232 := Nat.zero_le _
  have HL0 := Lib.hid hl
  have Z0 := Lib.hid (Zb.new (B := w.heap.size) w #[.int .i64 0, .int .i64 0, .int .i64 0, .int .i64 0, .int .i64 0, .string ⟨#[]⟩] 32 (Nat.le_refl _))
  have B0 : Hid (Below w.heap.size w (w.alloc (.cells #[.int .i64 0, .int .i64 0, .int .i64 0, .int .i64 0, .int .i64 0, .string ⟨#[]⟩] 32))) := Lib.hid (by go_grown)
  have hlen := split_len 32 s.data.toList
  have hsl : s.data.toList.length = s.size := rfl
  rw [hsl] at hlen
  have hne : 1 ≤ (splitB 32 s.data.toList).length := List.length_pos_iff.2 (split_ne 32 s.data.toList)
  clear hsl hl
  generalize hws : splitB 32 s.data.toList = ws at *
  have HWS := Lib.hid hws
  clear hws
  go_enter Tryz.func110, Tryz.ntmps110
  go_wp2_with fail
  refine (specSplit s 32 _ hs).mono ?_
  rintro e w1 ⟨A1, n1, c1, rfl, hW1, hb⟩
  rw [HWS.out] at hW1
  have HW1 := Lib.hid hW1
  have hn1 : n1 ≤ 1099511627777 := by rw [← hW1.1]; omega
  have hn0 : 0 < n1 := by rw [← hW1.1]; omega
  replace Z0 := Lib.hid (Z0.out.below hb)
  replace B0 := Lib.hid (B0.out.trans (hb.mono B0.out.size))
  clear hb hW1
  obtain ⟨b0, off0, x0, rfl, hb0w, hx0, hc0⟩ := HW1.out.at_ hn0
  have HH : Hid (opW (strB x0).data.toList = 10) := Lib.hid (by rw [← HOP.out]; cases ws with
    | nil => cases hx0
    | cons y ws => simp at hx0; subst hx0; rfl)
  clear hx0
  rw [Nat.add_zero] at hc0
  go_wp2_with fail
  refine (specOpW (strB x0) _).mono ?_
  rintro e w2 ⟨rfl, hb⟩
  rw [HH.out]
  have HW2 := Lib.hid (HW1.out.below hb)
  replace Z0 := Lib.hid (Z0.out.below hb)
  replace B0 := Lib.hid (B0.out.trans (hb.mono B0.out.size))
  clear hb hc0
  go_wp2_with fail
  refine (specNumV ws _ n1 c1 1 1 a _ rfl HW2.out (by omega) (by omega) HL0.out Ha.out).mono ?_
  rintro e w3 ⟨rfl, hb⟩
  have HW3 := Lib.hid (HW2.out.below hb)
  replace Z0 := Lib.hid (Z0.out.below hb)
  replace B0 := Lib.hid (B0.out.trans (hb.mono B0.out.size))
  clear hb
  have X : Hid (PS w w3.heap.size ws (some ⟨b0, off0, none⟩) n1 ⟨10, a, 0, 0, 0, ⟨#[]⟩⟩ (w3.alloc (.cells #[.int .i64 10, .int .i64 a, .int .i64 0, .int .i64 0, .int .i64 0, .string ⟨#[]⟩] 32))) := Lib.hid ⟨Z0.out.below ((Below.refl _ _).alloc (Nat.le_refl _) _), Zb.new (B := w.heap.size) w3 #[.int .i64 10, .int .i64 a, .int .i64 0, .int .i64 0, .int .i64 0, .string ⟨#[]⟩] 32 B0.out.size, B0.out.alloc B0.out.size _, Z0.out.2.1.1, w3, HW3.out, (Below.refl _ _).alloc (Nat.le_refl _) _, Nat.le_refl _⟩
  clear Z0 B0 HW1 HW2 HW3
  obtain ⟨⟨k0, k1, k2, k3, k4, k5⟩, f0, f1, f2, f3, f4, f5⟩ := X.out.cells
  
  generalize hiv : isI ⟨10, a, 0, 0, 0, ⟨#[]⟩⟩ = v at *
  have HVV := Lib.hid hiv
  clear hiv
  go_wp2_with fail
  refine (specIs ⟨10, a, 0, 0, 0, ⟨#[]⟩⟩ _ hnm).mono ?_
  rintro e w6 ⟨rfl, hb⟩
  rw [HVV.out]
  replace X := Lib.hid (X.out.below hb)
  clear hb
  cases v with
  | false =>
    have HN := Lib.hid (HD.out.no (fun h => by rw [HVV.out] at h; cases h))
    clear k0 k1 k2 k3 k4 k5 f0 f1 f2 f3 f4 f5
    obtain ⟨⟨z0, z1, z2, z3, z4, z5⟩, y0, y1, y2, y3, y4, y5⟩ := X.out.res.six
    have HQ := Lib.hid (X.out.res.put6 zeroI)
    have HBB := Lib.hid (below_put6 X.out.2.2.1 (Nat.le_refl _) zeroI)
    obtain ⟨p0, p1, p2, p3, p4, p5⟩ := HQ.out.six.1
    have HF : Hid (GivesPI (parseI s.data.toList) w (.returned (.tuple #[.agg #[.int .i64 0, .int .i64 0, .int .i64 0, .int .i64 0, .int .i64 0, .string ⟨#[]⟩], .bool false])) (put6 w6 w.heap.size zeroI)) := Lib.hid (GivesPI.none_ HN.out HBB.out)
    unfold put6 zeroI at p0 p1 p2 p3 p4 p5 HF
    simp only at p0 p1 p2 p3 p4 p5 HF
    go_wp2_with fail
    generalize ((((((w6.setCell ⟨w.heap.size, 0, none⟩ (.int .i64 0)).setCell ⟨w.heap.size, 1, none⟩ (.int .i64 0)).setCell ⟨w.heap.size, 2, none⟩ (.int .i64 0)).setCell ⟨w.heap.size, 3, none⟩ (.int .i64 0)).setCell ⟨w.heap.size, 4, none⟩ (.int .i64 0)).setCell ⟨w.heap.size, 5, none⟩ (.string ⟨#[]⟩)) = w9 at *
    refine bodyPost_ret (v := .tuple #[.agg #[.int .i64 0, .int .i64 0, .int .i64 0, .int .i64 0, .int .i64 0, .string ⟨#[]⟩], .bool false]) (by simp [results, Tryz.results110, go_sem, p0, p1, p2, p3, p4, p5]; try rfl) rfl ?_
    exact HF.out
  | true =>
    clear k0 k1 k2 k3 k4 k5 f0 f1 f2 f3 f4 f5
    obtain ⟨⟨k0, k1, k2, k3, k4, k5⟩, f0, f1, f2, f3, f4, f5⟩ := X.out.cells
    go_wp2_with fail
    refine (specFmt ⟨10, a, 0, 0, 0, ⟨#[]⟩⟩ _ hnm).mono ?_
    rintro e w7 ⟨rfl, hb⟩
    replace X := Lib.hid (X.out.below hb)
    clear hb k0 k1 k2 k3 k4 k5 f0 f1 f2 f3 f4 f5
    obtain ⟨⟨z0, z1, z2, z3, z4, z5⟩, y0, y1, y2, y3, y4, y5⟩ := X.out.res.six
    by_cases he : fmtI ⟨10, a, 0, 0, 0, ⟨#[]⟩⟩ = s.data.toList
    · have HN := Lib.hid (HD.out.yes HVV.out he)
      have hes : (⟨(fmtI ⟨10, a, 0, 0, 0, ⟨#[]⟩⟩).toArray⟩ : ByteArray) = s := by rw [he]
      rw [hes]
      have hq1 : (s.toList != s.toList) = false := by simp
      clear he hes
      obtain ⟨⟨k0, k1, k2, k3, k4, k5⟩, -⟩ := X.out.cells
      have HQ := Lib.hid (X.out.res.put6 ⟨10, a, 0, 0, 0, ⟨#[]⟩⟩)
      have HBB := Lib.hid (below_put6 X.out.2.2.1 (Nat.le_refl _) ⟨10, a, 0, 0, 0, ⟨#[]⟩⟩)
      obtain ⟨p0, p1, p2, p3, p4, p5⟩ := HQ.out.six.1
      have HF : Hid (GivesPI (parseI s.data.toList) w (.returned (.tuple #[.agg #[.int .i64 10, .int .i64 a, .int .i64 0, .int .i64 0, .int .i64 0, .string ⟨#[]⟩], .bool true])) (put6 w7 w.heap.size ⟨10, a, 0, 0, 0, ⟨#[]⟩⟩)) := Lib.hid (GivesPI.some_ HN.out HBB.out)
      unfold put6 at p0 p1 p2 p3 p4 p5 HF
      simp only at p0 p1 p2 p3 p4 p5 HF
      go_wp2_with fail
      generalize ((((((w7.setCell ⟨w.heap.size, 0, none⟩ (.int .i64 10)).setCell ⟨w.heap.size, 1, none⟩ (.int .i64 a)).setCell ⟨w.heap.size, 2, none⟩ (.int .i64 0)).setCell ⟨w.heap.size, 3, none⟩ (.int .i64 0)).setCell ⟨w.heap.size, 4, none⟩ (.int .i64 0)).setCell ⟨w.heap.size, 5, none⟩ (.string ⟨#[]⟩)) = w9 at *
      refine bodyPost_ret (v := .tuple #[.agg #[.int .i64 10, .int .i64 a, .int .i64 0, .int .i64 0, .int .i64 0, .string ⟨#[]⟩], .bool true]) (by simp [results, Tryz.results110, go_sem, p0, p1, p2, p3, p4, p5]; try rfl) rfl ?_
      exact HF.out
    · have HN := Lib.hid (HD.out.no (fun _ => he))
      have h1 := str_ne (fmt_ne he)
      have h2 := str_ne' (fmt_ne he)
      have h3 : ((⟨(fmtI ⟨10, a, 0, 0, 0, ⟨#[]⟩⟩).toArray⟩ : ByteArray).toList != s.toList) = true := by rw [bne, h1]; rfl
      generalize (⟨(fmtI ⟨10, a, 0, 0, 0, ⟨#[]⟩⟩).toArray⟩ : ByteArray) = t at *
      clear he
      have HQ := Lib.hid (X.out.res.put6 zeroI)
      have HBB := Lib.hid (below_put6 X.out.2.2.1 (Nat.le_refl _) zeroI)
      obtain ⟨p0, p1, p2, p3, p4, p5⟩ := HQ.out.six.1
      have HF : Hid (GivesPI (parseI s.data.toList) w (.returned (.tuple #[.agg #[.int .i64 0, .int .i64 0, .int .i64 0, .int .i64 0, .int .i64 0, .string ⟨#[]⟩], .bool false])) (put6 w7 w.heap.size zeroI)) := Lib.hid (GivesPI.none_ HN.out HBB.out)
      unfold put6 zeroI at p0 p1 p2 p3 p4 p5 HF
      simp only at p0 p1 p2 p3 p4 p5 HF
      go_wp2_with fail
      generalize ((((((w7.setCell ⟨w.heap.size, 0, none⟩ (.int .i64 0)).setCell ⟨w.heap.size, 1, none⟩ (.int .i64 0)).setCell ⟨w.heap.size, 2, none⟩ (.int .i64 0)).setCell ⟨w.heap.size, 3, none⟩ (.int .i64 0)).setCell ⟨w.heap.size, 4, none⟩ (.int .i64 0)).setCell ⟨w.heap.size, 5, none⟩ (.string ⟨#[]⟩)) = w9 at *
      refine bodyPost_ret (v := .tuple #[.agg #[.int .i64 0, .int .i64 0, .int .i64 0, .int .i64 0, .int .i64 0, .string ⟨#[]⟩], .bool false]) (by simp [results, Tryz.results110, go_sem, p0, p1, p2, p3, p4, p5]; try rfl) rfl ?_
      exact HF.out
set_option maxRecDepth 100000 in
set_option maxHeartbeats 16000000 in
theorem specPrs5 (s : ByteArray) (w : World) (hs : s.size ≤ 1099511627776) (HOP : Hid (opW ((splitB 32 s.data.toList).headD []) = 5)) (hl : ∀ x ∈ splitB 32 s.data.toList, x.length ≤ 140737488351232) (a : Int) (Ha : Hid (numW (splitB 32 s.data.toList) 1 = a)) (b : Int) (Hb : Hid (numW (splitB 32 s.data.toList) 2 = b)) (c : Int) (Hc : Hid (numW (splitB 32 s.data.toList) 3 = c)) :
    Calls Tryz.prog 110 #[.string s] w (GivesPI (parseI s.data.toList) w) := by
  have HD : Hid (Decides s.data.toList ⟨5, a, b, c, 0, ⟨#[]⟩⟩) := Lib.hid (Decides.of (cand_add HOP.out Ha.out Hb.out Hc.out))
  have hnm : (⟨#[]⟩ : ByteArray).size ≤ 140737488351232 := Nat.zero_le _
  have HL0 := Lib.hid hl
  have Z0 := Lib.hid (Zb.new (B := w.heap.size) w #[.int .i64 0, .int .i64 0, .int .i64 0, .int .i64 0, .int .i64 0, .string ⟨#[]⟩] 32 (Nat.le_refl _))
  have B0 : Hid (Below w.heap.size w (w.alloc (.cells #[.int .i64 0, .int .i64 0, .int .i64 0, .int .i64 0, .int .i64 0, .string ⟨#[]⟩] 32))) := Lib.hid (by go_grown)
  have hlen := split_len 32 s.data.toList
  have hsl : s.data.toList.length = s.size := rfl
  rw [hsl] at hlen
  have hne : 1 ≤ (splitB 32 s.data.toList).length := List.length_pos_iff.2 (split_ne 32 s.data.toList)
  clear hsl hl
  generalize hws : splitB 32 s.data.toList = ws at *
  have HWS := Lib.hid hws
  clear hws
  go_enter Tryz.func110, Tryz.ntmps110
  go_wp2_with fail
  refine (specSplit s 32 _ hs).mono ?_
  rintro e w1 ⟨A1, n1, c1, rfl, hW1, hb⟩
  rw [HWS.out] at hW1
  have HW1 := Lib.hid hW1
  have hn1 : n1 ≤ 1099511627777 := by rw [← hW1.1]; omega
  have hn0 : 0 < n1 := by rw [← hW1.1]; omega
  replace Z0 := Lib.hid (Z0.out.below hb)
  replace B0 := Lib.hid (B0.out.trans (hb.mono B0.out.size))
  clear hb hW1
  obtain ⟨b0, off0, x0, rfl, hb0w, hx0, hc0⟩ := HW1.out.at_ hn0
  have HH : Hid (opW (strB x0).data.toList = 5) := Lib.hid (by rw [← HOP.out]; cases ws with
    | nil => cases hx0
    | cons y ws => simp at hx0; subst hx0; rfl)
  clear hx0
  rw [Nat.add_zero] at hc0
  go_wp2_with fail
  refine (specOpW (strB x0) _).mono ?_
  rintro e w2 ⟨rfl, hb⟩
  rw [HH.out]
  have HW2 := Lib.hid (HW1.out.below hb)
  replace Z0 := Lib.hid (Z0.out.below hb)
  replace B0 := Lib.hid (B0.out.trans (hb.mono B0.out.size))
  clear hb hc0
  go_wp2_with fail
  refine (specNumV ws _ n1 c1 1 1 a _ rfl HW2.out (by omega) (by omega) HL0.out Ha.out).mono ?_
  rintro e w3 ⟨rfl, hb⟩
  have HW3 := Lib.hid (HW2.out.below hb)
  replace Z0 := Lib.hid (Z0.out.below hb)
  replace B0 := Lib.hid (B0.out.trans (hb.mono B0.out.size))
  clear hb
  have X : Hid (PS w w3.heap.size ws (some ⟨b0, off0, none⟩) n1 ⟨5, a, 0, 0, 0, ⟨#[]⟩⟩ (w3.alloc (.cells #[.int .i64 5, .int .i64 a, .int .i64 0, .int .i64 0, .int .i64 0, .string ⟨#[]⟩] 32))) := Lib.hid ⟨Z0.out.below ((Below.refl _ _).alloc (Nat.le_refl _) _), Zb.new (B := w.heap.size) w3 #[.int .i64 5, .int .i64 a, .int .i64 0, .int .i64 0, .int .i64 0, .string ⟨#[]⟩] 32 B0.out.size, B0.out.alloc B0.out.size _, Z0.out.2.1.1, w3, HW3.out, (Below.refl _ _).alloc (Nat.le_refl _) _, Nat.le_refl _⟩
  clear Z0 B0 HW1 HW2 HW3
  obtain ⟨⟨k0, k1, k2, k3, k4, k5⟩, f0, f1, f2, f3, f4, f5⟩ := X.out.cells
  go_wp2_with fail
  refine (specNumV ws _ n1 c1 2 2 b _ rfl X.out.words (by omega) (by omega) HL0.out Hb.out).mono ?_
  rintro e w4 ⟨rfl, hb⟩
  replace X := Lib.hid (X.out.below hb)
  clear hb
  clear k0 k1 k2 k3 k4 k5 f0 f1 f2 f3 f4 f5
  obtain ⟨⟨k0, k1, k2, k3, k4, k5⟩, f0, f1, f2, f3, f4, f5⟩ := X.out.cells
  have Y := Lib.hid (X.out.put (y := ⟨5, a, b, 0, 0, ⟨#[]⟩⟩) 2 (by decide) (.int .i64 b) rfl)
  replace X := Y
  clear Y
  obtain ⟨⟨j0, j1, j2, j3, j4, j5⟩, -⟩ := X.out.cells
  go_wp2_with fail
  refine (specNumV ws _ n1 c1 3 3 c _ rfl X.out.words (by omega) (by omega) HL0.out Hc.out).mono ?_
  rintro e w4 ⟨rfl, hb⟩
  replace X := Lib.hid (X.out.below hb)
  clear hb j0 j1 j2 j3 j4 j5
  clear k0 k1 k2 k3 k4 k5 f0 f1 f2 f3 f4 f5
  obtain ⟨⟨k0, k1, k2, k3, k4, k5⟩, f0, f1, f2, f3, f4, f5⟩ := X.out.cells
  have Y := Lib.hid (X.out.put (y := ⟨5, a, b, c, 0, ⟨#[]⟩⟩) 3 (by decide) (.int .i64 c) rfl)
  replace X := Y
  clear Y
  obtain ⟨⟨j0, j1, j2, j3, j4, j5⟩, -⟩ := X.out.cells
  generalize hiv : isI ⟨5, a, b, c, 0, ⟨#[]⟩⟩ = v at *
  have HVV := Lib.hid hiv
  clear hiv
  go_wp2_with fail
  refine (specIs ⟨5, a, b, c, 0, ⟨#[]⟩⟩ _ hnm).mono ?_
  rintro e w6 ⟨rfl, hb⟩
  rw [HVV.out]
  replace X := Lib.hid (X.out.below hb)
  clear hb
  cases v with
  | false =>
    have HN := Lib.hid (HD.out.no (fun h => by rw [HVV.out] at h; cases h))
    clear k0 k1 k2 k3 k4 k5 f0 f1 f2 f3 f4 f5
    obtain ⟨⟨z0, z1, z2, z3, z4, z5⟩, y0, y1, y2, y3, y4, y5⟩ := X.out.res.six
    have HQ := Lib.hid (X.out.res.put6 zeroI)
    have HBB := Lib.hid (below_put6 X.out.2.2.1 (Nat.le_refl _) zeroI)
    obtain ⟨p0, p1, p2, p3, p4, p5⟩ := HQ.out.six.1
    have HF : Hid (GivesPI (parseI s.data.toList) w (.returned (.tuple #[.agg #[.int .i64 0, .int .i64 0, .int .i64 0, .int .i64 0, .int .i64 0, .string ⟨#[]⟩], .bool false])) (put6 w6 w.heap.size zeroI)) := Lib.hid (GivesPI.none_ HN.out HBB.out)
    unfold put6 zeroI at p0 p1 p2 p3 p4 p5 HF
    simp only at p0 p1 p2 p3 p4 p5 HF
    go_wp2_with fail
    generalize ((((((w6.setCell ⟨w.heap.size, 0, none⟩ (.int .i64 0)).setCell ⟨w.heap.size, 1, none⟩ (.int .i64 0)).setCell ⟨w.heap.size, 2, none⟩ (.int .i64 0)).setCell ⟨w.heap.size, 3, none⟩ (.int .i64 0)).setCell ⟨w.heap.size, 4, none⟩ (.int .i64 0)).setCell ⟨w.heap.size, 5, none⟩ (.string ⟨#[]⟩)) = w9 at *
    refine bodyPost_ret (v := .tuple #[.agg #[.int .i64 0, .int .i64 0, .int .i64 0, .int .i64 0, .int .i64 0, .string ⟨#[]⟩], .bool false]) (by simp [results, Tryz.results110, go_sem, p0, p1, p2, p3, p4, p5]; try rfl) rfl ?_
    exact HF.out
  | true =>
    clear k0 k1 k2 k3 k4 k5 f0 f1 f2 f3 f4 f5
    obtain ⟨⟨k0, k1, k2, k3, k4, k5⟩, f0, f1, f2, f3, f4, f5⟩ := X.out.cells
    go_wp2_with fail
    refine (specFmt ⟨5, a, b, c, 0, ⟨#[]⟩⟩ _ hnm).mono ?_
    rintro e w7 ⟨rfl, hb⟩
    replace X := Lib.hid (X.out.below hb)
    clear hb k0 k1 k2 k3 k4 k5 f0 f1 f2 f3 f4 f5
    obtain ⟨⟨z0, z1, z2, z3, z4, z5⟩, y0, y1, y2, y3, y4, y5⟩ := X.out.res.six
    by_cases he : fmtI ⟨5, a, b, c, 0, ⟨#[]⟩⟩ = s.data.toList
    · have HN := Lib.hid (HD.out.yes HVV.out he)
      have hes : (⟨(fmtI ⟨5, a, b, c, 0, ⟨#[]⟩⟩).toArray⟩ : ByteArray) = s := by rw [he]
      rw [hes]
      have hq1 : (s.toList != s.toList) = false := by simp
      clear he hes
      obtain ⟨⟨k0, k1, k2, k3, k4, k5⟩, -⟩ := X.out.cells
      have HQ := Lib.hid (X.out.res.put6 ⟨5, a, b, c, 0, ⟨#[]⟩⟩)
      have HBB := Lib.hid (below_put6 X.out.2.2.1 (Nat.le_refl _) ⟨5, a, b, c, 0, ⟨#[]⟩⟩)
      obtain ⟨p0, p1, p2, p3, p4, p5⟩ := HQ.out.six.1
      have HF : Hid (GivesPI (parseI s.data.toList) w (.returned (.tuple #[.agg #[.int .i64 5, .int .i64 a, .int .i64 b, .int .i64 c, .int .i64 0, .string ⟨#[]⟩], .bool true])) (put6 w7 w.heap.size ⟨5, a, b, c, 0, ⟨#[]⟩⟩)) := Lib.hid (GivesPI.some_ HN.out HBB.out)
      unfold put6 at p0 p1 p2 p3 p4 p5 HF
      simp only at p0 p1 p2 p3 p4 p5 HF
      go_wp2_with fail
      generalize ((((((w7.setCell ⟨w.heap.size, 0, none⟩ (.int .i64 5)).setCell ⟨w.heap.size, 1, none⟩ (.int .i64 a)).setCell ⟨w.heap.size, 2, none⟩ (.int .i64 b)).setCell ⟨w.heap.size, 3, none⟩ (.int .i64 c)).setCell ⟨w.heap.size, 4, none⟩ (.int .i64 0)).setCell ⟨w.heap.size, 5, none⟩ (.string ⟨#[]⟩)) = w9 at *
      refine bodyPost_ret (v := .tuple #[.agg #[.int .i64 5, .int .i64 a, .int .i64 b, .int .i64 c, .int .i64 0, .string ⟨#[]⟩], .bool true]) (by simp [results, Tryz.results110, go_sem, p0, p1, p2, p3, p4, p5]; try rfl) rfl ?_
      exact HF.out
    · have HN := Lib.hid (HD.out.no (fun _ => he))
      have h1 := str_ne (fmt_ne he)
      have h2 := str_ne' (fmt_ne he)
      have h3 : ((⟨(fmtI ⟨5, a, b, c, 0, ⟨#[]⟩⟩).toArray⟩ : ByteArray).toList != s.toList) = true := by rw [bne, h1]; rfl
      generalize (⟨(fmtI ⟨5, a, b, c, 0, ⟨#[]⟩⟩).toArray⟩ : ByteArray) = t at *
      clear he
      have HQ := Lib.hid (X.out.res.put6 zeroI)
      have HBB := Lib.hid (below_put6 X.out.2.2.1 (Nat.le_refl _) zeroI)
      obtain ⟨p0, p1, p2, p3, p4, p5⟩ := HQ.out.six.1
      have HF : Hid (GivesPI (parseI s.data.toList) w (.returned (.tuple #[.agg #[.int .i64 0, .int .i64 0, .int .i64 0, .int .i64 0, .int .i64 0, .string ⟨#[]⟩], .bool false])) (put6 w7 w.heap.size zeroI)) := Lib.hid (GivesPI.none_ HN.out HBB.out)
      unfold put6 zeroI at p0 p1 p2 p3 p4 p5 HF
      simp only at p0 p1 p2 p3 p4 p5 HF
      go_wp2_with fail
      generalize ((((((w7.setCell ⟨w.heap.size, 0, none⟩ (.int .i64 0)).setCell ⟨w.heap.size, 1, none⟩ (.int .i64 0)).setCell ⟨w.heap.size, 2, none⟩ (.int .i64 0)).setCell ⟨w.heap.size, 3, none⟩ (.int .i64 0)).setCell ⟨w.heap.size, 4, none⟩ (.int .i64 0)).setCell ⟨w.heap.size, 5, none⟩ (.string ⟨#[]⟩)) = w9 at *
      refine bodyPost_ret (v := .tuple #[.agg #[.int .i64 0, .int .i64 0, .int .i64 0, .int .i64 0, .int .i64 0, .string ⟨#[]⟩], .bool false]) (by simp [results, Tryz.results110, go_sem, p0, p1, p2, p3, p4, p5]; try rfl) rfl ?_
      exact HF.out
set_option maxRecDepth 100000 in
set_option maxHeartbeats 16000000 in
theorem specPrs6 (s : ByteArray) (w : World) (hs : s.size ≤ 1099511627776) (HOP : Hid (opW ((splitB 32 s.data.toList).headD []) = 6)) (hl : ∀ x ∈ splitB 32 s.data.toList, x.length ≤ 140737488351232) (a : Int) (Ha : Hid (numW (splitB 32 s.data.toList) 1 = a)) (b : Int) (Hb : Hid (numW (splitB 32 s.data.toList) 2 = b)) (c : Int) (Hc : Hid (numW (splitB 32 s.data.toList) 4 = c)) (d : Int) (Hd : Hid (numW (splitB 32 s.data.toList) 5 = d)) (nm : ByteArray) (Hn : Hid (strW (splitB 32 s.data.toList) 3 = nm)) (hnm : nm.size ≤ 140737488351232) :
    Calls Tryz.prog 110 #[.string s] w (GivesPI (parseI s.data.toList) w) := by
  have HD : Hid (Decides s.data.toList ⟨6, a, b, c, d, nm⟩) := Lib.hid (Decides.of (cand_send HOP.out Ha.out Hb.out Hc.out Hd.out Hn.out))
  have HL0 := Lib.hid hl
  have Z0 := Lib.hid (Zb.new (B := w.heap.size) w #[.int .i64 0, .int .i64 0, .int .i64 0, .int .i64 0, .int .i64 0, .string ⟨#[]⟩] 32 (Nat.le_refl _))
  have B0 : Hid (Below w.heap.size w (w.alloc (.cells #[.int .i64 0, .int .i64 0, .int .i64 0, .int .i64 0, .int .i64 0, .string ⟨#[]⟩] 32))) := Lib.hid (by go_grown)
  have hlen := split_len 32 s.data.toList
  have hsl : s.data.toList.length = s.size := rfl
  rw [hsl] at hlen
  have hne : 1 ≤ (splitB 32 s.data.toList).length := List.length_pos_iff.2 (split_ne 32 s.data.toList)
  clear hsl hl
  generalize hws : splitB 32 s.data.toList = ws at *
  have HWS := Lib.hid hws
  clear hws
  go_enter Tryz.func110, Tryz.ntmps110
  go_wp2_with fail
  refine (specSplit s 32 _ hs).mono ?_
  rintro e w1 ⟨A1, n1, c1, rfl, hW1, hb⟩
  rw [HWS.out] at hW1
  have HW1 := Lib.hid hW1
  have hn1 : n1 ≤ 1099511627777 := by rw [← hW1.1]; omega
  have hn0 : 0 < n1 := by rw [← hW1.1]; omega
  replace Z0 := Lib.hid (Z0.out.below hb)
  replace B0 := Lib.hid (B0.out.trans (hb.mono B0.out.size))
  clear hb hW1
  obtain ⟨b0, off0, x0, rfl, hb0w, hx0, hc0⟩ := HW1.out.at_ hn0
  have HH : Hid (opW (strB x0).data.toList = 6) := Lib.hid (by rw [← HOP.out]; cases ws with
    | nil => cases hx0
    | cons y ws => simp at hx0; subst hx0; rfl)
  clear hx0
  rw [Nat.add_zero] at hc0
  go_wp2_with fail
  refine (specOpW (strB x0) _).mono ?_
  rintro e w2 ⟨rfl, hb⟩
  rw [HH.out]
  have HW2 := Lib.hid (HW1.out.below hb)
  replace Z0 := Lib.hid (Z0.out.below hb)
  replace B0 := Lib.hid (B0.out.trans (hb.mono B0.out.size))
  clear hb hc0
  go_wp2_with fail
  refine (specNumV ws _ n1 c1 1 1 a _ rfl HW2.out (by omega) (by omega) HL0.out Ha.out).mono ?_
  rintro e w3 ⟨rfl, hb⟩
  have HW3 := Lib.hid (HW2.out.below hb)
  replace Z0 := Lib.hid (Z0.out.below hb)
  replace B0 := Lib.hid (B0.out.trans (hb.mono B0.out.size))
  clear hb
  have X : Hid (PS w w3.heap.size ws (some ⟨b0, off0, none⟩) n1 ⟨6, a, 0, 0, 0, ⟨#[]⟩⟩ (w3.alloc (.cells #[.int .i64 6, .int .i64 a, .int .i64 0, .int .i64 0, .int .i64 0, .string ⟨#[]⟩] 32))) := Lib.hid ⟨Z0.out.below ((Below.refl _ _).alloc (Nat.le_refl _) _), Zb.new (B := w.heap.size) w3 #[.int .i64 6, .int .i64 a, .int .i64 0, .int .i64 0, .int .i64 0, .string ⟨#[]⟩] 32 B0.out.size, B0.out.alloc B0.out.size _, Z0.out.2.1.1, w3, HW3.out, (Below.refl _ _).alloc (Nat.le_refl _) _, Nat.le_refl _⟩
  clear Z0 B0 HW1 HW2 HW3
  obtain ⟨⟨k0, k1, k2, k3, k4, k5⟩, f0, f1, f2, f3, f4, f5⟩ := X.out.cells
  go_wp2_with fail
  refine (specNumV ws _ n1 c1 2 2 b _ rfl X.out.words (by omega) (by omega) HL0.out Hb.out).mono ?_
  rintro e w4 ⟨rfl, hb⟩
  replace X := Lib.hid (X.out.below hb)
  clear hb
  clear k0 k1 k2 k3 k4 k5 f0 f1 f2 f3 f4 f5
  obtain ⟨⟨k0, k1, k2, k3, k4, k5⟩, f0, f1, f2, f3, f4, f5⟩ := X.out.cells
  have Y := Lib.hid (X.out.put (y := ⟨6, a, b, 0, 0, ⟨#[]⟩⟩) 2 (by decide) (.int .i64 b) rfl)
  replace X := Y
  clear Y
  obtain ⟨⟨j0, j1, j2, j3, j4, j5⟩, -⟩ := X.out.cells
  go_wp2_with fail
  refine (specNumV ws _ n1 c1 4 4 c _ rfl X.out.words (by omega) (by omega) HL0.out Hc.out).mono ?_
  rintro e w4 ⟨rfl, hb⟩
  replace X := Lib.hid (X.out.below hb)
  clear hb j0 j1 j2 j3 j4 j5
  clear k0 k1 k2 k3 k4 k5 f0 f1 f2 f3 f4 f5
  obtain ⟨⟨k0, k1, k2, k3, k4, k5⟩, f0, f1, f2, f3, f4, f5⟩ := X.out.cells
  have Y := Lib.hid (X.out.put (y := ⟨6, a, b, c, 0, ⟨#[]⟩⟩) 3 (by decide) (.int .i64 c) rfl)
  replace X := Y
  clear Y
  obtain ⟨⟨j0, j1, j2, j3, j4, j5⟩, -⟩ := X.out.cells
  go_wp2_with fail
  refine (specNumV ws _ n1 c1 5 5 d _ rfl X.out.words (by omega) (by omega) HL0.out Hd.out).mono ?_
  rintro e w4 ⟨rfl, hb⟩
  replace X := Lib.hid (X.out.below hb)
  clear hb j0 j1 j2 j3 j4 j5
  clear k0 k1 k2 k3 k4 k5 f0 f1 f2 f3 f4 f5
  obtain ⟨⟨k0, k1, k2, k3, k4, k5⟩, f0, f1, f2, f3, f4, f5⟩ := X.out.cells
  have Y := Lib.hid (X.out.put (y := ⟨6, a, b, c, d, ⟨#[]⟩⟩) 4 (by decide) (.int .i64 d) rfl)
  replace X := Y
  clear Y
  obtain ⟨⟨j0, j1, j2, j3, j4, j5⟩, -⟩ := X.out.cells
  by_cases hln : 3 < n1
  · obtain ⟨bq, offq, xq, hAq, hbqw, hxq, hcq⟩ := X.out.words.at_ hln
    obtain ⟨rfl, rfl⟩ : b0 = bq ∧ off0 = offq := by
      have h1 := Option.some.inj hAq
      injection h1 with h1 h2
      exact ⟨h1, h2⟩
    have hnq : strB xq = nm := by rw [← Hn.out]; exact strW_yes hxq
    rw [hnq] at hcq
    have hln' : (3 : Int) < n1 := by omega
    clear hAq hxq hnq
    have Y := Lib.hid (X.out.put (y := ⟨6, a, b, c, d, nm⟩) 5 (by decide) (.string nm) rfl)
    replace X := Y
    clear Y
    have g0 := X.out.cells
    obtain ⟨⟨i0, i1, i2, i3, i4, i5⟩, -⟩ := X.out.cells
    clear g0
    generalize hiv : isI ⟨6, a, b, c, d, nm⟩ = v at *
    have HVV := Lib.hid hiv
    clear hiv
    go_wp2_with fail
    refine (specIs ⟨6, a, b, c, d, nm⟩ _ hnm).mono ?_
    rintro e w6 ⟨rfl, hb⟩
    rw [HVV.out]
    replace X := Lib.hid (X.out.below hb)
    clear hb
    cases v with
    | false =>
      have HN := Lib.hid (HD.out.no (fun h => by rw [HVV.out] at h; cases h))
      clear k0 k1 k2 k3 k4 k5 f0 f1 f2 f3 f4 f5
      obtain ⟨⟨z0, z1, z2, z3, z4, z5⟩, y0, y1, y2, y3, y4, y5⟩ := X.out.res.six
      have HQ := Lib.hid (X.out.res.put6 zeroI)
      have HBB := Lib.hid (below_put6 X.out.2.2.1 (Nat.le_refl _) zeroI)
      obtain ⟨p0, p1, p2, p3, p4, p5⟩ := HQ.out.six.1
      have HF : Hid (GivesPI (parseI s.data.toList) w (.returned (.tuple #[.agg #[.int .i64 0, .int .i64 0, .int .i64 0, .int .i64 0, .int .i64 0, .string ⟨#[]⟩], .bool false])) (put6 w6 w.heap.size zeroI)) := Lib.hid (GivesPI.none_ HN.out HBB.out)
      unfold put6 zeroI at p0 p1 p2 p3 p4 p5 HF
      simp only at p0 p1 p2 p3 p4 p5 HF
      go_wp2_with fail
      generalize ((((((w6.setCell ⟨w.heap.size, 0, none⟩ (.int .i64 0)).setCell ⟨w.heap.size, 1, none⟩ (.int .i64 0)).setCell ⟨w.heap.size, 2, none⟩ (.int .i64 0)).setCell ⟨w.heap.size, 3, none⟩ (.int .i64 0)).setCell ⟨w.heap.size, 4, none⟩ (.int .i64 0)).setCell ⟨w.heap.size, 5, none⟩ (.string ⟨#[]⟩)) = w9 at *
      refine bodyPost_ret (v := .tuple #[.agg #[.int .i64 0, .int .i64 0, .int .i64 0, .int .i64 0, .int .i64 0, .string ⟨#[]⟩], .bool false]) (by simp [results, Tryz.results110, go_sem, p0, p1, p2, p3, p4, p5]; try rfl) rfl ?_
      exact HF.out
    | true =>
      clear k0 k1 k2 k3 k4 k5 f0 f1 f2 f3 f4 f5
      obtain ⟨⟨k0, k1, k2, k3, k4, k5⟩, f0, f1, f2, f3, f4, f5⟩ := X.out.cells
      go_wp2_with fail
      refine (specFmt ⟨6, a, b, c, d, nm⟩ _ hnm).mono ?_
      rintro e w7 ⟨rfl, hb⟩
      replace X := Lib.hid (X.out.below hb)
      clear hb k0 k1 k2 k3 k4 k5 f0 f1 f2 f3 f4 f5
      obtain ⟨⟨z0, z1, z2, z3, z4, z5⟩, y0, y1, y2, y3, y4, y5⟩ := X.out.res.six
      by_cases he : fmtI ⟨6, a, b, c, d, nm⟩ = s.data.toList
      · have HN := Lib.hid (HD.out.yes HVV.out he)
        have hes : (⟨(fmtI ⟨6, a, b, c, d, nm⟩).toArray⟩ : ByteArray) = s := by rw [he]
        rw [hes]
        have hq1 : (s.toList != s.toList) = false := by simp
        clear he hes
        obtain ⟨⟨k0, k1, k2, k3, k4, k5⟩, -⟩ := X.out.cells
        have HQ := Lib.hid (X.out.res.put6 ⟨6, a, b, c, d, nm⟩)
        have HBB := Lib.hid (below_put6 X.out.2.2.1 (Nat.le_refl _) ⟨6, a, b, c, d, nm⟩)
        obtain ⟨p0, p1, p2, p3, p4, p5⟩ := HQ.out.six.1
        have HF : Hid (GivesPI (parseI s.data.toList) w (.returned (.tuple #[.agg #[.int .i64 6, .int .i64 a, .int .i64 b, .int .i64 c, .int .i64 d, .string nm], .bool true])) (put6 w7 w.heap.size ⟨6, a, b, c, d, nm⟩)) := Lib.hid (GivesPI.some_ HN.out HBB.out)
        unfold put6 at p0 p1 p2 p3 p4 p5 HF
        simp only at p0 p1 p2 p3 p4 p5 HF
        go_wp2_with fail
        generalize ((((((w7.setCell ⟨w.heap.size, 0, none⟩ (.int .i64 6)).setCell ⟨w.heap.size, 1, none⟩ (.int .i64 a)).setCell ⟨w.heap.size, 2, none⟩ (.int .i64 b)).setCell ⟨w.heap.size, 3, none⟩ (.int .i64 c)).setCell ⟨w.heap.size, 4, none⟩ (.int .i64 d)).setCell ⟨w.heap.size, 5, none⟩ (.string nm)) = w9 at *
        refine bodyPost_ret (v := .tuple #[.agg #[.int .i64 6, .int .i64 a, .int .i64 b, .int .i64 c, .int .i64 d, .string nm], .bool true]) (by simp [results, Tryz.results110, go_sem, p0, p1, p2, p3, p4, p5]; try rfl) rfl ?_
        exact HF.out
      · have HN := Lib.hid (HD.out.no (fun _ => he))
        have h1 := str_ne (fmt_ne he)
        have h2 := str_ne' (fmt_ne he)
        have h3 : ((⟨(fmtI ⟨6, a, b, c, d, nm⟩).toArray⟩ : ByteArray).toList != s.toList) = true := by rw [bne, h1]; rfl
        generalize (⟨(fmtI ⟨6, a, b, c, d, nm⟩).toArray⟩ : ByteArray) = t at *
        clear he
        have HQ := Lib.hid (X.out.res.put6 zeroI)
        have HBB := Lib.hid (below_put6 X.out.2.2.1 (Nat.le_refl _) zeroI)
        obtain ⟨p0, p1, p2, p3, p4, p5⟩ := HQ.out.six.1
        have HF : Hid (GivesPI (parseI s.data.toList) w (.returned (.tuple #[.agg #[.int .i64 0, .int .i64 0, .int .i64 0, .int .i64 0, .int .i64 0, .string ⟨#[]⟩], .bool false])) (put6 w7 w.heap.size zeroI)) := Lib.hid (GivesPI.none_ HN.out HBB.out)
        unfold put6 zeroI at p0 p1 p2 p3 p4 p5 HF
        simp only at p0 p1 p2 p3 p4 p5 HF
        go_wp2_with fail
        generalize ((((((w7.setCell ⟨w.heap.size, 0, none⟩ (.int .i64 0)).setCell ⟨w.heap.size, 1, none⟩ (.int .i64 0)).setCell ⟨w.heap.size, 2, none⟩ (.int .i64 0)).setCell ⟨w.heap.size, 3, none⟩ (.int .i64 0)).setCell ⟨w.heap.size, 4, none⟩ (.int .i64 0)).setCell ⟨w.heap.size, 5, none⟩ (.string ⟨#[]⟩)) = w9 at *
        refine bodyPost_ret (v := .tuple #[.agg #[.int .i64 0, .int .i64 0, .int .i64 0, .int .i64 0, .int .i64 0, .string ⟨#[]⟩], .bool false]) (by simp [results, Tryz.results110, go_sem, p0, p1, p2, p3, p4, p5]; try rfl) rfl ?_
        exact HF.out
  · have hnq : nm = ⟨#[]⟩ := by rw [← Hn.out]; exact (strW_no (List.getElem?_eq_none (by rw [X.out.words.1]; omega))).symm
    subst hnq
    generalize hiv : isI ⟨6, a, b, c, d, ⟨#[]⟩⟩ = v at *
    have HVV := Lib.hid hiv
    clear hiv
    go_wp2_with fail
    refine (specIs ⟨6, a, b, c, d, ⟨#[]⟩⟩ _ hnm).mono ?_
    rintro e w6 ⟨rfl, hb⟩
    rw [HVV.out]
    replace X := Lib.hid (X.out.below hb)
    clear hb
    cases v with
    | false =>
      have HN := Lib.hid (HD.out.no (fun h => by rw [HVV.out] at h; cases h))
      clear k0 k1 k2 k3 k4 k5 f0 f1 f2 f3 f4 f5
      obtain ⟨⟨z0, z1, z2, z3, z4, z5⟩, y0, y1, y2, y3, y4, y5⟩ := X.out.res.six
      have HQ := Lib.hid (X.out.res.put6 zeroI)
      have HBB := Lib.hid (below_put6 X.out.2.2.1 (Nat.le_refl _) zeroI)
      obtain ⟨p0, p1, p2, p3, p4, p5⟩ := HQ.out.six.1
      have HF : Hid (GivesPI (parseI s.data.toList) w (.returned (.tuple #[.agg #[.int .i64 0, .int .i64 0, .int .i64 0, .int .i64 0, .int .i64 0, .string ⟨#[]⟩], .bool false])) (put6 w6 w.heap.size zeroI)) := Lib.hid (GivesPI.none_ HN.out HBB.out)
      unfold put6 zeroI at p0 p1 p2 p3 p4 p5 HF
      simp only at p0 p1 p2 p3 p4 p5 HF
      go_wp2_with fail
      generalize ((((((w6.setCell ⟨w.heap.size, 0, none⟩ (.int .i64 0)).setCell ⟨w.heap.size, 1, none⟩ (.int .i64 0)).setCell ⟨w.heap.size, 2, none⟩ (.int .i64 0)).setCell ⟨w.heap.size, 3, none⟩ (.int .i64 0)).setCell ⟨w.heap.size, 4, none⟩ (.int .i64 0)).setCell ⟨w.heap.size, 5, none⟩ (.string ⟨#[]⟩)) = w9 at *
      refine bodyPost_ret (v := .tuple #[.agg #[.int .i64 0, .int .i64 0, .int .i64 0, .int .i64 0, .int .i64 0, .string ⟨#[]⟩], .bool false]) (by simp [results, Tryz.results110, go_sem, p0, p1, p2, p3, p4, p5]; try rfl) rfl ?_
      exact HF.out
    | true =>
      clear k0 k1 k2 k3 k4 k5 f0 f1 f2 f3 f4 f5
      obtain ⟨⟨k0, k1, k2, k3, k4, k5⟩, f0, f1, f2, f3, f4, f5⟩ := X.out.cells
      go_wp2_with fail
      refine (specFmt ⟨6, a, b, c, d, ⟨#[]⟩⟩ _ hnm).mono ?_
      rintro e w7 ⟨rfl, hb⟩
      replace X := Lib.hid (X.out.below hb)
      clear hb k0 k1 k2 k3 k4 k5 f0 f1 f2 f3 f4 f5
      obtain ⟨⟨z0, z1, z2, z3, z4, z5⟩, y0, y1, y2, y3, y4, y5⟩ := X.out.res.six
      by_cases he : fmtI ⟨6, a, b, c, d, ⟨#[]⟩⟩ = s.data.toList
      · have HN := Lib.hid (HD.out.yes HVV.out he)
        have hes : (⟨(fmtI ⟨6, a, b, c, d, ⟨#[]⟩⟩).toArray⟩ : ByteArray) = s := by rw [he]
        rw [hes]
        have hq1 : (s.toList != s.toList) = false := by simp
        clear he hes
        obtain ⟨⟨k0, k1, k2, k3, k4, k5⟩, -⟩ := X.out.cells
        have HQ := Lib.hid (X.out.res.put6 ⟨6, a, b, c, d, ⟨#[]⟩⟩)
        have HBB := Lib.hid (below_put6 X.out.2.2.1 (Nat.le_refl _) ⟨6, a, b, c, d, ⟨#[]⟩⟩)
        obtain ⟨p0, p1, p2, p3, p4, p5⟩ := HQ.out.six.1
        have HF : Hid (GivesPI (parseI s.data.toList) w (.returned (.tuple #[.agg #[.int .i64 6, .int .i64 a, .int .i64 b, .int .i64 c, .int .i64 d, .string ⟨#[]⟩], .bool true])) (put6 w7 w.heap.size ⟨6, a, b, c, d, ⟨#[]⟩⟩)) := Lib.hid (GivesPI.some_ HN.out HBB.out)
        unfold put6 at p0 p1 p2 p3 p4 p5 HF
        simp only at p0 p1 p2 p3 p4 p5 HF
        go_wp2_with fail
        generalize ((((((w7.setCell ⟨w.heap.size, 0, none⟩ (.int .i64 6)).setCell ⟨w.heap.size, 1, none⟩ (.int .i64 a)).setCell ⟨w.heap.size, 2, none⟩ (.int .i64 b)).setCell ⟨w.heap.size, 3, none⟩ (.int .i64 c)).setCell ⟨w.heap.size, 4, none⟩ (.int .i64 d)).setCell ⟨w.heap.size, 5, none⟩ (.string ⟨#[]⟩)) = w9 at *
        refine bodyPost_ret (v := .tuple #[.agg #[.int .i64 6, .int .i64 a, .int .i64 b, .int .i64 c, .int .i64 d, .string ⟨#[]⟩], .bool true]) (by simp [results, Tryz.results110, go_sem, p0, p1, p2, p3, p4, p5]; try rfl) rfl ?_
        exact HF.out
      · have HN := Lib.hid (HD.out.no (fun _ => he))
        have h1 := str_ne (fmt_ne he)
        have h2 := str_ne' (fmt_ne he)
        have h3 : ((⟨(fmtI ⟨6, a, b, c, d, ⟨#[]⟩⟩).toArray⟩ : ByteArray).toList != s.toList) = true := by rw [bne, h1]; rfl
        generalize (⟨(fmtI ⟨6, a, b, c, d, ⟨#[]⟩⟩).toArray⟩ : ByteArray) = t at *
        clear he
        have HQ := Lib.hid (X.out.res.put6 zeroI)
        have HBB := Lib.hid (below_put6 X.out.2.2.1 (Nat.le_refl _) zeroI)
        obtain ⟨p0, p1, p2, p3, p4, p5⟩ := HQ.out.six.1
        have HF : Hid (GivesPI (parseI s.data.toList) w (.returned (.tuple #[.agg #[.int .i64 0, .int .i64 0, .int .i64 0, .int .i64 0, .int .i64 0, .string ⟨#[]⟩], .bool false])) (put6 w7 w.heap.size zeroI)) := Lib.hid (GivesPI.none_ HN.out HBB.out)
        unfold put6 zeroI at p0 p1 p2 p3 p4 p5 HF
        simp only at p0 p1 p2 p3 p4 p5 HF
        go_wp2_with fail
        generalize ((((((w7.setCell ⟨w.heap.size, 0, none⟩ (.int .i64 0)).setCell ⟨w.heap.size, 1, none⟩ (.int .i64 0)).setCell ⟨w.heap.size, 2, none⟩ (.int .i64 0)).setCell ⟨w.heap.size, 3, none⟩ (.int .i64 0)).setCell ⟨w.heap.size, 4, none⟩ (.int .i64 0)).setCell ⟨w.heap.size, 5, none⟩ (.string ⟨#[]⟩)) = w9 at *
        refine bodyPost_ret (v := .tuple #[.agg #[.int .i64 0, .int .i64 0, .int .i64 0, .int .i64 0, .int .i64 0, .string ⟨#[]⟩], .bool false]) (by simp [results, Tryz.results110, go_sem, p0, p1, p2, p3, p4, p5]; try rfl) rfl ?_
        exact HF.out
set_option maxRecDepth 100000 in
set_option maxHeartbeats 16000000 in
theorem specPrs7 (s : ByteArray) (w : World) (hs : s.size ≤ 1099511627776) (HOP : Hid (opW ((splitB 32 s.data.toList).headD []) = 7)) (hl : ∀ x ∈ splitB 32 s.data.toList, x.length ≤ 140737488351232) (a : Int) (Ha : Hid (numW (splitB 32 s.data.toList) 1 = a)) (c : Int) (Hc : Hid (numW (splitB 32 s.data.toList) 3 = c)) (d : Int) (Hd : Hid (numW (splitB 32 s.data.toList) 4 = d)) (nm : ByteArray) (Hn : Hid (strW (splitB 32 s.data.toList) 2 = nm)) (hnm : nm.size ≤ 140737488351232) :
    Calls Tryz.prog 110 #[.string s] w (GivesPI (parseI s.data.toList) w) := by
  have HD : Hid (Decides s.data.toList ⟨7, a, 0, c, d, nm⟩) := Lib.hid (Decides.of (cand_new HOP.out Ha.out Hc.out Hd.out Hn.out))
  have HL0 := Lib.hid hl
  have Z0 := Lib.hid (Zb.new (B := w.heap.size) w #[.int .i64 0, .int .i64 0, .int .i64 0, .int .i64 0, .int .i64 0, .string ⟨#[]⟩] 32 (Nat.le_refl _))
  have B0 : Hid (Below w.heap.size w (w.alloc (.cells #[.int .i64 0, .int .i64 0, .int .i64 0, .int .i64 0, .int .i64 0, .string ⟨#[]⟩] 32))) := Lib.hid (by go_grown)
  have hlen := split_len 32 s.data.toList
  have hsl : s.data.toList.length = s.size := rfl
  rw [hsl] at hlen
  have hne : 1 ≤ (splitB 32 s.data.toList).length := List.length_pos_iff.2 (split_ne 32 s.data.toList)
  clear hsl hl
  generalize hws : splitB 32 s.data.toList = ws at *
  have HWS := Lib.hid hws
  clear hws
  go_enter Tryz.func110, Tryz.ntmps110
  go_wp2_with fail
  refine (specSplit s 32 _ hs).mono ?_
  rintro e w1 ⟨A1, n1, c1, rfl, hW1, hb⟩
  rw [HWS.out] at hW1
  have HW1 := Lib.hid hW1
  have hn1 : n1 ≤ 1099511627777 := by rw [← hW1.1]; omega
  have hn0 : 0 < n1 := by rw [← hW1.1]; omega
  replace Z0 := Lib.hid (Z0.out.below hb)
  replace B0 := Lib.hid (B0.out.trans (hb.mono B0.out.size))
  clear hb hW1
  obtain ⟨b0, off0, x0, rfl, hb0w, hx0, hc0⟩ := HW1.out.at_ hn0
  have HH : Hid (opW (strB x0).data.toList = 7) := Lib.hid (by rw [← HOP.out]; cases ws with
    | nil => cases hx0
    | cons y ws => simp at hx0; subst hx0; rfl)
  clear hx0
  rw [Nat.add_zero] at hc0
  go_wp2_with fail
  refine (specOpW (strB x0) _).mono ?_
  rintro e w2 ⟨rfl, hb⟩
  rw [HH.out]
  have HW2 := Lib.hid (HW1.out.below hb)
  replace Z0 := Lib.hid (Z0.out.below hb)
  replace B0 := Lib.hid (B0.out.trans (hb.mono B0.out.size))
  clear hb hc0
  go_wp2_with fail
  refine (specNumV ws _ n1 c1 1 1 a _ rfl HW2.out (by omega) (by omega) HL0.out Ha.out).mono ?_
  rintro e w3 ⟨rfl, hb⟩
  have HW3 := Lib.hid (HW2.out.below hb)
  replace Z0 := Lib.hid (Z0.out.below hb)
  replace B0 := Lib.hid (B0.out.trans (hb.mono B0.out.size))
  clear hb
  have X : Hid (PS w w3.heap.size ws (some ⟨b0, off0, none⟩) n1 ⟨7, a, 0, 0, 0, ⟨#[]⟩⟩ (w3.alloc (.cells #[.int .i64 7, .int .i64 a, .int .i64 0, .int .i64 0, .int .i64 0, .string ⟨#[]⟩] 32))) := Lib.hid ⟨Z0.out.below ((Below.refl _ _).alloc (Nat.le_refl _) _), Zb.new (B := w.heap.size) w3 #[.int .i64 7, .int .i64 a, .int .i64 0, .int .i64 0, .int .i64 0, .string ⟨#[]⟩] 32 B0.out.size, B0.out.alloc B0.out.size _, Z0.out.2.1.1, w3, HW3.out, (Below.refl _ _).alloc (Nat.le_refl _) _, Nat.le_refl _⟩
  clear Z0 B0 HW1 HW2 HW3
  obtain ⟨⟨k0, k1, k2, k3, k4, k5⟩, f0, f1, f2, f3, f4, f5⟩ := X.out.cells
  go_wp2_with fail
  refine (specNumV ws _ n1 c1 3 3 c _ rfl X.out.words (by omega) (by omega) HL0.out Hc.out).mono ?_
  rintro e w4 ⟨rfl, hb⟩
  replace X := Lib.hid (X.out.below hb)
  clear hb
  clear k0 k1 k2 k3 k4 k5 f0 f1 f2 f3 f4 f5
  obtain ⟨⟨k0, k1, k2, k3, k4, k5⟩, f0, f1, f2, f3, f4, f5⟩ := X.out.cells
  have Y := Lib.hid (X.out.put (y := ⟨7, a, 0, c, 0, ⟨#[]⟩⟩) 3 (by decide) (.int .i64 c) rfl)
  replace X := Y
  clear Y
  obtain ⟨⟨j0, j1, j2, j3, j4, j5⟩, -⟩ := X.out.cells
  go_wp2_with fail
  refine (specNumV ws _ n1 c1 4 4 d _ rfl X.out.words (by omega) (by omega) HL0.out Hd.out).mono ?_
  rintro e w4 ⟨rfl, hb⟩
  replace X := Lib.hid (X.out.below hb)
  clear hb j0 j1 j2 j3 j4 j5
  clear k0 k1 k2 k3 k4 k5 f0 f1 f2 f3 f4 f5
  obtain ⟨⟨k0, k1, k2, k3, k4, k5⟩, f0, f1, f2, f3, f4, f5⟩ := X.out.cells
  have Y := Lib.hid (X.out.put (y := ⟨7, a, 0, c, d, ⟨#[]⟩⟩) 4 (by decide) (.int .i64 d) rfl)
  replace X := Y
  clear Y
  obtain ⟨⟨j0, j1, j2, j3, j4, j5⟩, -⟩ := X.out.cells
  by_cases hln : 2 < n1
  · obtain ⟨bq, offq, xq, hAq, hbqw, hxq, hcq⟩ := X.out.words.at_ hln
    obtain ⟨rfl, rfl⟩ : b0 = bq ∧ off0 = offq := by
      have h1 := Option.some.inj hAq
      injection h1 with h1 h2
      exact ⟨h1, h2⟩
    have hnq : strB xq = nm := by rw [← Hn.out]; exact strW_yes hxq
    rw [hnq] at hcq
    have hln' : (2 : Int) < n1 := by omega
    clear hAq hxq hnq
    have Y := Lib.hid (X.out.put (y := ⟨7, a, 0, c, d, nm⟩) 5 (by decide) (.string nm) rfl)
    replace X := Y
    clear Y
    have g0 := X.out.cells
    obtain ⟨⟨i0, i1, i2, i3, i4, i5⟩, -⟩ := X.out.cells
    clear g0
    generalize hiv : isI ⟨7, a, 0, c, d, nm⟩ = v at *
    have HVV := Lib.hid hiv
    clear hiv
    go_wp2_with fail
    refine (specIs ⟨7, a, 0, c, d, nm⟩ _ hnm).mono ?_
    rintro e w6 ⟨rfl, hb⟩
    rw [HVV.out]
    replace X := Lib.hid (X.out.below hb)
    clear hb
    cases v with
    | false =>
      have HN := Lib.hid (HD.out.no (fun h => by rw [HVV.out] at h; cases h))
      clear k0 k1 k2 k3 k4 k5 f0 f1 f2 f3 f4 f5
      obtain ⟨⟨z0, z1, z2, z3, z4, z5⟩, y0, y1, y2, y3, y4, y5⟩ := X.out.res.six
      have HQ := Lib.hid (X.out.res.put6 zeroI)
      have HBB := Lib.hid (below_put6 X.out.2.2.1 (Nat.le_refl _) zeroI)
      obtain ⟨p0, p1, p2, p3, p4, p5⟩ := HQ.out.six.1
      have HF : Hid (GivesPI (parseI s.data.toList) w (.returned (.tuple #[.agg #[.int .i64 0, .int .i64 0, .int .i64 0, .int .i64 0, .int .i64 0, .string ⟨#[]⟩], .bool false])) (put6 w6 w.heap.size zeroI)) := Lib.hid (GivesPI.none_ HN.out HBB.out)
      unfold put6 zeroI at p0 p1 p2 p3 p4 p5 HF
      simp only at p0 p1 p2 p3 p4 p5 HF
      go_wp2_with fail
      generalize ((((((w6.setCell ⟨w.heap.size, 0, none⟩ (.int .i64 0)).setCell ⟨w.heap.size, 1, none⟩ (.int .i64 0)).setCell ⟨w.heap.size, 2, none⟩ (.int .i64 0)).setCell ⟨w.heap.size, 3, none⟩ (.int .i64 0)).setCell ⟨w.heap.size, 4, none⟩ (.int .i64 0)).setCell ⟨w.heap.size, 5, none⟩ (.string ⟨#[]⟩)) = w9 at *
      refine bodyPost_ret (v := .tuple #[.agg #[.int .i64 0, .int .i64 0, .int .i64 0, .int .i64 0, .int .i64 0, .string ⟨#[]⟩], .bool false]) (by simp [results, Tryz.results110, go_sem, p0, p1, p2, p3, p4, p5]; try rfl) rfl ?_
      exact HF.out
    | true =>
      clear k0 k1 k2 k3 k4 k5 f0 f1 f2 f3 f4 f5
      obtain ⟨⟨k0, k1, k2, k3, k4, k5⟩, f0, f1, f2, f3, f4, f5⟩ := X.out.cells
      go_wp2_with fail
      refine (specFmt ⟨7, a, 0, c, d, nm⟩ _ hnm).mono ?_
      rintro e w7 ⟨rfl, hb⟩
      replace X := Lib.hid (X.out.below hb)
      clear hb k0 k1 k2 k3 k4 k5 f0 f1 f2 f3 f4 f5
      obtain ⟨⟨z0, z1, z2, z3, z4, z5⟩, y0, y1, y2, y3, y4, y5⟩ := X.out.res.six
      by_cases he : fmtI ⟨7, a, 0, c, d, nm⟩ = s.data.toList
      · have HN := Lib.hid (HD.out.yes HVV.out he)
        have hes : (⟨(fmtI ⟨7, a, 0, c, d, nm⟩).toArray⟩ : ByteArray) = s := by rw [he]
        rw [hes]
        have hq1 : (s.toList != s.toList) = false := by simp
        clear he hes
        obtain ⟨⟨k0, k1, k2, k3, k4, k5⟩, -⟩ := X.out.cells
        have HQ := Lib.hid (X.out.res.put6 ⟨7, a, 0, c, d, nm⟩)
        have HBB := Lib.hid (below_put6 X.out.2.2.1 (Nat.le_refl _) ⟨7, a, 0, c, d, nm⟩)
        obtain ⟨p0, p1, p2, p3, p4, p5⟩ := HQ.out.six.1
        have HF : Hid (GivesPI (parseI s.data.toList) w (.returned (.tuple #[.agg #[.int .i64 7, .int .i64 a, .int .i64 0, .int .i64 c, .int .i64 d, .string nm], .bool true])) (put6 w7 w.heap.size ⟨7, a, 0, c, d, nm⟩)) := Lib.hid (GivesPI.some_ HN.out HBB.out)
        unfold put6 at p0 p1 p2 p3 p4 p5 HF
        simp only at p0 p1 p2 p3 p4 p5 HF
        go_wp2_with fail
        generalize ((((((w7.setCell ⟨w.heap.size, 0, none⟩ (.int .i64 7)).setCell ⟨w.heap.size, 1, none⟩ (.int .i64 a)).setCell ⟨w.heap.size, 2, none⟩ (.int .i64 0)).setCell ⟨w.heap.size, 3, none⟩ (.int .i64 c)).setCell ⟨w.heap.size, 4, none⟩ (.int .i64 d)).setCell ⟨w.heap.size, 5, none⟩ (.string nm)) = w9 at *
        refine bodyPost_ret (v := .tuple #[.agg #[.int .i64 7, .int .i64 a, .int .i64 0, .int .i64 c, .int .i64 d, .string nm], .bool true]) (by simp [results, Tryz.results110, go_sem, p0, p1, p2, p3, p4, p5]; try rfl) rfl ?_
        exact HF.out
      · have HN := Lib.hid (HD.out.no (fun _ => he))
        have h1 := str_ne (fmt_ne he)
        have h2 := str_ne' (fmt_ne he)
        have h3 : ((⟨(fmtI ⟨7, a, 0, c, d, nm⟩).toArray⟩ : ByteArray).toList != s.toList) = true := by rw [bne, h1]; rfl
        generalize (⟨(fmtI ⟨7, a, 0, c, d, nm⟩).toArray⟩ : ByteArray) = t at *
        clear he
        have HQ := Lib.hid (X.out.res.put6 zeroI)
        have HBB := Lib.hid (below_put6 X.out.2.2.1 (Nat.le_refl _) zeroI)
        obtain ⟨p0, p1, p2, p3, p4, p5⟩ := HQ.out.six.1
        have HF : Hid (GivesPI (parseI s.data.toList) w (.returned (.tuple #[.agg #[.int .i64 0, .int .i64 0, .int .i64 0, .int .i64 0, .int .i64 0, .string ⟨#[]⟩], .bool false])) (put6 w7 w.heap.size zeroI)) := Lib.hid (GivesPI.none_ HN.out HBB.out)
        unfold put6 zeroI at p0 p1 p2 p3 p4 p5 HF
        simp only at p0 p1 p2 p3 p4 p5 HF
        go_wp2_with fail
        generalize ((((((w7.setCell ⟨w.heap.size, 0, none⟩ (.int .i64 0)).setCell ⟨w.heap.size, 1, none⟩ (.int .i64 0)).setCell ⟨w.heap.size, 2, none⟩ (.int .i64 0)).setCell ⟨w.heap.size, 3, none⟩ (.int .i64 0)).setCell ⟨w.heap.size, 4, none⟩ (.int .i64 0)).setCell ⟨w.heap.size, 5, none⟩ (.string ⟨#[]⟩)) = w9 at *
        refine bodyPost_ret (v := .tuple #[.agg #[.int .i64 0, .int .i64 0, .int .i64 0, .int .i64 0, .int .i64 0, .string ⟨#[]⟩], .bool false]) (by simp [results, Tryz.results110, go_sem, p0, p1, p2, p3, p4, p5]; try rfl) rfl ?_
        exact HF.out
  · have hnq : nm = ⟨#[]⟩ := by rw [← Hn.out]; exact (strW_no (List.getElem?_eq_none (by rw [X.out.words.1]; omega))).symm
    subst hnq
    generalize hiv : isI ⟨7, a, 0, c, d, ⟨#[]⟩⟩ = v at *
    have HVV := Lib.hid hiv
    clear hiv
    go_wp2_with fail
    refine (specIs ⟨7, a, 0, c, d, ⟨#[]⟩⟩ _ hnm).mono ?_
    rintro e w6 ⟨rfl, hb⟩
    rw [HVV.out]
    replace X := Lib.hid (X.out.below hb)
    clear hb
    cases v with
    | false =>
      have HN := Lib.hid (HD.out.no (fun h => by rw [HVV.out] at h; cases h))
      clear k0 k1 k2 k3 k4 k5 f0 f1 f2 f3 f4 f5
      obtain ⟨⟨z0, z1, z2, z3, z4, z5⟩, y0, y1, y2, y3, y4, y5⟩ := X.out.res.six
      have HQ := Lib.hid (X.out.res.put6 zeroI)
      have HBB := Lib.hid (below_put6 X.out.2.2.1 (Nat.le_refl _) zeroI)
      obtain ⟨p0, p1, p2, p3, p4, p5⟩ := HQ.out.six.1
      have HF : Hid (GivesPI (parseI s.data.toList) w (.returned (.tuple #[.agg #[.int .i64 0, .int .i64 0, .int .i64 0, .int .i64 0, .int .i64 0, .string ⟨#[]⟩], .bool false])) (put6 w6 w.heap.size zeroI)) := Lib.hid (GivesPI.none_ HN.out HBB.out)
      unfold put6 zeroI at p0 p1 p2 p3 p4 p5 HF
      simp only at p0 p1 p2 p3 p4 p5 HF
      go_wp2_with fail
      generalize ((((((w6.setCell ⟨w.heap.size, 0, none⟩ (.int .i64 0)).setCell ⟨w.heap.size, 1, none⟩ (.int .i64 0)).setCell ⟨w.heap.size, 2, none⟩ (.int .i64 0)).setCell ⟨w.heap.size, 3, none⟩ (.int .i64 0)).setCell ⟨w.heap.size, 4, none⟩ (.int .i64 0)).setCell ⟨w.heap.size, 5, none⟩ (.string ⟨#[]⟩)) = w9 at *
      refine bodyPost_ret (v := .tuple #[.agg #[.int .i64 0, .int .i64 0, .int .i64 0, .int .i64 0, .int .i64 0, .string ⟨#[]⟩], .bool false]) (by simp [results, Tryz.results110, go_sem, p0, p1, p2, p3, p4, p5]; try rfl) rfl ?_
      exact HF.out
    | true =>
      clear k0 k1 k2 k3 k4 k5 f0 f1 f2 f3 f4 f5
      obtain ⟨⟨k0, k1, k2, k3, k4, k5⟩, f0, f1, f2, f3, f4, f5⟩ := X.out.cells
      go_wp2_with fail
      refine (specFmt ⟨7, a, 0, c, d, ⟨#[]⟩⟩ _ hnm).mono ?_
      rintro e w7 ⟨rfl, hb⟩
      replace X := Lib.hid (X.out.below hb)
      clear hb k0 k1 k2 k3 k4 k5 f0 f1 f2 f3 f4 f5
      obtain ⟨⟨z0, z1, z2, z3, z4, z5⟩, y0, y1, y2, y3, y4, y5⟩ := X.out.res.six
      by_cases he : fmtI ⟨7, a, 0, c, d, ⟨#[]⟩⟩ = s.data.toList
      · have HN := Lib.hid (HD.out.yes HVV.out he)
        have hes : (⟨(fmtI ⟨7, a, 0, c, d, ⟨#[]⟩⟩).toArray⟩ : ByteArray) = s := by rw [he]
        rw [hes]
        have hq1 : (s.toList != s.toList) = false := by simp
        clear he hes
        obtain ⟨⟨k0, k1, k2, k3, k4, k5⟩, -⟩ := X.out.cells
        have HQ := Lib.hid (X.out.res.put6 ⟨7, a, 0, c, d, ⟨#[]⟩⟩)
        have HBB := Lib.hid (below_put6 X.out.2.2.1 (Nat.le_refl _) ⟨7, a, 0, c, d, ⟨#[]⟩⟩)
        obtain ⟨p0, p1, p2, p3, p4, p5⟩ := HQ.out.six.1
        have HF : Hid (GivesPI (parseI s.data.toList) w (.returned (.tuple #[.agg #[.int .i64 7, .int .i64 a, .int .i64 0, .int .i64 c, .int .i64 d, .string ⟨#[]⟩], .bool true])) (put6 w7 w.heap.size ⟨7, a, 0, c, d, ⟨#[]⟩⟩)) := Lib.hid (GivesPI.some_ HN.out HBB.out)
        unfold put6 at p0 p1 p2 p3 p4 p5 HF
        simp only at p0 p1 p2 p3 p4 p5 HF
        go_wp2_with fail
        generalize ((((((w7.setCell ⟨w.heap.size, 0, none⟩ (.int .i64 7)).setCell ⟨w.heap.size, 1, none⟩ (.int .i64 a)).setCell ⟨w.heap.size, 2, none⟩ (.int .i64 0)).setCell ⟨w.heap.size, 3, none⟩ (.int .i64 c)).setCell ⟨w.heap.size, 4, none⟩ (.int .i64 d)).setCell ⟨w.heap.size, 5, none⟩ (.string ⟨#[]⟩)) = w9 at *
        refine bodyPost_ret (v := .tuple #[.agg #[.int .i64 7, .int .i64 a, .int .i64 0, .int .i64 c, .int .i64 d, .string ⟨#[]⟩], .bool true]) (by simp [results, Tryz.results110, go_sem, p0, p1, p2, p3, p4, p5]; try rfl) rfl ?_
        exact HF.out
      · have HN := Lib.hid (HD.out.no (fun _ => he))
        have h1 := str_ne (fmt_ne he)
        have h2 := str_ne' (fmt_ne he)
        have h3 : ((⟨(fmtI ⟨7, a, 0, c, d, ⟨#[]⟩⟩).toArray⟩ : ByteArray).toList != s.toList) = true := by rw [bne, h1]; rfl
        generalize (⟨(fmtI ⟨7, a, 0, c, d, ⟨#[]⟩⟩).toArray⟩ : ByteArray) = t at *
        clear he
        have HQ := Lib.hid (X.out.res.put6 zeroI)
        have HBB := Lib.hid (below_put6 X.out.2.2.1 (Nat.le_refl _) zeroI)
        obtain ⟨p0, p1, p2, p3, p4, p5⟩ := HQ.out.six.1
        have HF : Hid (GivesPI (parseI s.data.toList) w (.returned (.tuple #[.agg #[.int .i64 0, .int .i64 0, .int .i64 0, .int .i64 0, .int .i64 0, .string ⟨#[]⟩], .bool false])) (put6 w7 w.heap.size zeroI)) := Lib.hid (GivesPI.none_ HN.out HBB.out)
        unfold put6 zeroI at p0 p1 p2 p3 p4 p5 HF
        simp only at p0 p1 p2 p3 p4 p5 HF
        go_wp2_with fail
        generalize ((((((w7.setCell ⟨w.heap.size, 0, none⟩ (.int .i64 0)).setCell ⟨w.heap.size, 1, none⟩ (.int .i64 0)).setCell ⟨w.heap.size, 2, none⟩ (.int .i64 0)).setCell ⟨w.heap.size, 3, none⟩ (.int .i64 0)).setCell ⟨w.heap.size, 4, none⟩ (.int .i64 0)).setCell ⟨w.heap.size, 5, none⟩ (.string ⟨#[]⟩)) = w9 at *
        refine bodyPost_ret (v := .tuple #[.agg #[.int .i64 0, .int .i64 0, .int .i64 0, .int .i64 0, .int .i64 0, .string ⟨#[]⟩], .bool false]) (by simp [results, Tryz.results110, go_sem, p0, p1, p2, p3, p4, p5]; try rfl) rfl ?_
        exact HF.out
set_option maxRecDepth 100000 in
set_option maxHeartbeats 16000000 in
theorem specPrs0 (s : ByteArray) (op : Int) (ho : ¬ (op = 4 ∨ op = 10) ∧ ¬ op = 5 ∧ ¬ op = 6 ∧ ¬ op = 7) (w : World) (hs : s.size ≤ 1099511627776) (HOP : Hid (opW ((splitB 32 s.data.toList).headD []) = op)) (hl : ∀ x ∈ splitB 32 s.data.toList, x.length ≤ 140737488351232) (a : Int) (Ha : Hid (numW (splitB 32 s.data.toList) 1 = a)) (b : Int) (Hb : Hid (numW (splitB 32 s.data.toList) 2 = b)) :
    Calls Tryz.prog 110 #[.string s] w (GivesPI (parseI s.data.toList) w) := by
  have HD : Hid (Decides s.data.toList ⟨op, a, b, 0, 0, ⟨#[]⟩⟩) := Lib.hid (Decides.of (cand_two HOP.out ho Ha.out Hb.out))
  have hnm : (⟨#[]⟩ : ByteArray).size ≤ 140737488351232 := Nat.zero_le _
  have n4 : (op == 4) = false := by simp; omega
  have n10 : (op == 10) = false := by simp; omega
  have n5 : (op == 5) = false := by simp; omega
  have n6 : (op == 6) = false := by simp; omega
  have n7 : (op == 7) = false := by simp; omega
  have HO := Lib.hid ho
  clear ho
  have HL0 := Lib.hid hl
  have Z0 := Lib.hid (Zb.new (B := w.heap.size) w #[.int .i64 0, .int .i64 0, .int .i64 0, .int .i64 0, .int .i64 0, .string ⟨#[]⟩] 32 (Nat.le_refl _))
  have B0 : Hid (Below w.heap.size w (w.alloc (.cells #[.int .i64 0, .int .i64 0, .int .i64 0, .int .i64 0, .int .i64 0, .string ⟨#[]⟩] 32))) := Lib.hid (by go_grown)
  have hlen := split_len 32 s.data.toList
  have hsl : s.data.toList.length = s.size := rfl
  rw [hsl] at hlen
  have hne : 1 ≤ (splitB 32 s.data.toList).length := List.length_pos_iff.2 (split_ne 32 s.data.toList)
  clear hsl hl
  generalize hws : splitB 32 s.data.toList = ws at *
  have HWS := Lib.hid hws
  clear hws
  go_enter Tryz.func110, Tryz.ntmps110
  go_wp2_with fail
  refine (specSplit s 32 _ hs).mono ?_
  rintro e w1 ⟨A1, n1, c1, rfl, hW1, hb⟩
  rw [HWS.out] at hW1
  have HW1 := Lib.hid hW1
  have hn1 : n1 ≤ 1099511627777 := by rw [← hW1.1]; omega
  have hn0 : 0 < n1 := by rw [← hW1.1]; omega
  replace Z0 := Lib.hid (Z0.out.below hb)
  replace B0 := Lib.hid (B0.out.trans (hb.mono B0.out.size))
  clear hb hW1
  obtain ⟨b0, off0, x0, rfl, hb0w, hx0, hc0⟩ := HW1.out.at_ hn0
  have HH : Hid (opW (strB x0).data.toList = op) := Lib.hid (by rw [← HOP.out]; cases ws with
    | nil => cases hx0
    | cons y ws => simp at hx0; subst hx0; rfl)
  clear hx0
  rw [Nat.add_zero] at hc0
  go_wp2_with fail
  refine (specOpW (strB x0) _).mono ?_
  rintro e w2 ⟨rfl, hb⟩
  rw [HH.out]
  have HW2 := Lib.hid (HW1.out.below hb)
  replace Z0 := Lib.hid (Z0.out.below hb)
  replace B0 := Lib.hid (B0.out.trans (hb.mono B0.out.size))
  clear hb hc0
  go_wp2_with fail
  refine (specNumV ws _ n1 c1 1 1 a _ rfl HW2.out (by omega) (by omega) HL0.out Ha.out).mono ?_
  rintro e w3 ⟨rfl, hb⟩
  have HW3 := Lib.hid (HW2.out.below hb)
  replace Z0 := Lib.hid (Z0.out.below hb)
  replace B0 := Lib.hid (B0.out.trans (hb.mono B0.out.size))
  clear hb
  have X : Hid (PS w w3.heap.size ws (some ⟨b0, off0, none⟩) n1 ⟨op, a, 0, 0, 0, ⟨#[]⟩⟩ (w3.alloc (.cells #[.int .i64 op, .int .i64 a, .int .i64 0, .int .i64 0, .int .i64 0, .string ⟨#[]⟩] 32))) := Lib.hid ⟨Z0.out.below ((Below.refl _ _).alloc (Nat.le_refl _) _), Zb.new (B := w.heap.size) w3 #[.int .i64 op, .int .i64 a, .int .i64 0, .int .i64 0, .int .i64 0, .string ⟨#[]⟩] 32 B0.out.size, B0.out.alloc B0.out.size _, Z0.out.2.1.1, w3, HW3.out, (Below.refl _ _).alloc (Nat.le_refl _) _, Nat.le_refl _⟩
  clear Z0 B0 HW1 HW2 HW3
  obtain ⟨⟨k0, k1, k2, k3, k4, k5⟩, f0, f1, f2, f3, f4, f5⟩ := X.out.cells
  go_wp2_with fail
  refine (specNumV ws _ n1 c1 2 2 b _ rfl X.out.words (by omega) (by omega) HL0.out Hb.out).mono ?_
  rintro e w4 ⟨rfl, hb⟩
  replace X := Lib.hid (X.out.below hb)
  clear hb
  clear k0 k1 k2 k3 k4 k5 f0 f1 f2 f3 f4 f5
  obtain ⟨⟨k0, k1, k2, k3, k4, k5⟩, f0, f1, f2, f3, f4, f5⟩ := X.out.cells
  have Y := Lib.hid (X.out.put (y := ⟨op, a, b, 0, 0, ⟨#[]⟩⟩) 2 (by decide) (.int .i64 b) rfl)
  replace X := Y
  clear Y
  obtain ⟨⟨j0, j1, j2, j3, j4, j5⟩, -⟩ := X.out.cells
  generalize hiv : isI ⟨op, a, b, 0, 0, ⟨#[]⟩⟩ = v at *
  have HVV := Lib.hid hiv
  clear hiv
  go_wp2_with fail
  refine (specIs ⟨op, a, b, 0, 0, ⟨#[]⟩⟩ _ hnm).mono ?_
  rintro e w6 ⟨rfl, hb⟩
  rw [HVV.out]
  replace X := Lib.hid (X.out.below hb)
  clear hb
  cases v with
  | false =>
    have HN := Lib.hid (HD.out.no (fun h => by rw [HVV.out] at h; cases h))
    clear k0 k1 k2 k3 k4 k5 f0 f1 f2 f3 f4 f5
    obtain ⟨⟨z0, z1, z2, z3, z4, z5⟩, y0, y1, y2, y3, y4, y5⟩ := X.out.res.six
    have HQ := Lib.hid (X.out.res.put6 zeroI)
    have HBB := Lib.hid (below_put6 X.out.2.2.1 (Nat.le_refl _) zeroI)
    obtain ⟨p0, p1, p2, p3, p4, p5⟩ := HQ.out.six.1
    have HF : Hid (GivesPI (parseI s.data.toList) w (.returned (.tuple #[.agg #[.int .i64 0, .int .i64 0, .int .i64 0, .int .i64 0, .int .i64 0, .string ⟨#[]⟩], .bool false])) (put6 w6 w.heap.size zeroI)) := Lib.hid (GivesPI.none_ HN.out HBB.out)
    unfold put6 zeroI at p0 p1 p2 p3 p4 p5 HF
    simp only at p0 p1 p2 p3 p4 p5 HF
    go_wp2_with fail
    generalize ((((((w6.setCell ⟨w.heap.size, 0, none⟩ (.int .i64 0)).setCell ⟨w.heap.size, 1, none⟩ (.int .i64 0)).setCell ⟨w.heap.size, 2, none⟩ (.int .i64 0)).setCell ⟨w.heap.size, 3, none⟩ (.int .i64 0)).setCell ⟨w.heap.size, 4, none⟩ (.int .i64 0)).setCell ⟨w.heap.size, 5, none⟩ (.string ⟨#[]⟩)) = w9 at *
    refine bodyPost_ret (v := .tuple #[.agg #[.int .i64 0, .int .i64 0, .int .i64 0, .int .i64 0, .int .i64 0, .string ⟨#[]⟩], .bool false]) (by simp [results, Tryz.results110, go_sem, p0, p1, p2, p3, p4, p5]; try rfl) rfl ?_
    exact HF.out
  | true =>
    clear k0 k1 k2 k3 k4 k5 f0 f1 f2 f3 f4 f5
    obtain ⟨⟨k0, k1, k2, k3, k4, k5⟩, f0, f1, f2, f3, f4, f5⟩ := X.out.cells
    go_wp2_with fail
    refine (specFmt ⟨op, a, b, 0, 0, ⟨#[]⟩⟩ _ hnm).mono ?_
    rintro e w7 ⟨rfl, hb⟩
    replace X := Lib.hid (X.out.below hb)
    clear hb k0 k1 k2 k3 k4 k5 f0 f1 f2 f3 f4 f5
    obtain ⟨⟨z0, z1, z2, z3, z4, z5⟩, y0, y1, y2, y3, y4, y5⟩ := X.out.res.six
    by_cases he : fmtI ⟨op, a, b, 0, 0, ⟨#[]⟩⟩ = s.data.toList
    · have HN := Lib.hid (HD.out.yes HVV.out he)
      have hes : (⟨(fmtI ⟨op, a, b, 0, 0, ⟨#[]⟩⟩).toArray⟩ : ByteArray) = s := by rw [he]
      rw [hes]
      have hq1 : (s.toList != s.toList) = false := by simp
      clear he hes
      obtain ⟨⟨k0, k1, k2, k3, k4, k5⟩, -⟩ := X.out.cells
      have HQ := Lib.hid (X.out.res.put6 ⟨op, a, b, 0, 0, ⟨#[]⟩⟩)
      have HBB := Lib.hid (below_put6 X.out.2.2.1 (Nat.le_refl _) ⟨op, a, b, 0, 0, ⟨#[]⟩⟩)
      obtain ⟨p0, p1, p2, p3, p4, p5⟩ := HQ.out.six.1
      have HF : Hid (GivesPI (parseI s.data.toList) w (.returned (.tuple #[.agg #[.int .i64 op, .int .i64 a, .int .i64 b, .int .i64 0, .int .i64 0, .string ⟨#[]⟩], .bool true])) (put6 w7 w.heap.size ⟨op, a, b, 0, 0, ⟨#[]⟩⟩)) := Lib.hid (GivesPI.some_ HN.out HBB.out)
      unfold put6 at p0 p1 p2 p3 p4 p5 HF
      simp only at p0 p1 p2 p3 p4 p5 HF
      go_wp2_with fail
      generalize ((((((w7.setCell ⟨w.heap.size, 0, none⟩ (.int .i64 op)).setCell ⟨w.heap.size, 1, none⟩ (.int .i64 a)).setCell ⟨w.heap.size, 2, none⟩ (.int .i64 b)).setCell ⟨w.heap.size, 3, none⟩ (.int .i64 0)).setCell ⟨w.heap.size, 4, none⟩ (.int .i64 0)).setCell ⟨w.heap.size, 5, none⟩ (.string ⟨#[]⟩)) = w9 at *
      refine bodyPost_ret (v := .tuple #[.agg #[.int .i64 op, .int .i64 a, .int .i64 b, .int .i64 0, .int .i64 0, .string ⟨#[]⟩], .bool true]) (by simp [results, Tryz.results110, go_sem, p0, p1, p2, p3, p4, p5]; try rfl) rfl ?_
      exact HF.out
    · have HN := Lib.hid (HD.out.no (fun _ => he))
      have h1 := str_ne (fmt_ne he)
      have h2 := str_ne' (fmt_ne he)
      have h3 : ((⟨(fmtI ⟨op, a, b, 0, 0, ⟨#[]⟩⟩).toArray⟩ : ByteArray).toList != s.toList) = true := by rw [bne, h1]; rfl
      generalize (⟨(fmtI ⟨op, a, b, 0, 0, ⟨#[]⟩⟩).toArray⟩ : ByteArray) = t at *
      clear he
      have HQ := Lib.hid (X.out.res.put6 zeroI)
      have HBB := Lib.hid (below_put6 X.out.2.2.1 (Nat.le_refl _) zeroI)
      obtain ⟨p0, p1, p2, p3, p4, p5⟩ := HQ.out.six.1
      have HF : Hid (GivesPI (parseI s.data.toList) w (.returned (.tuple #[.agg #[.int .i64 0, .int .i64 0, .int .i64 0, .int .i64 0, .int .i64 0, .string ⟨#[]⟩], .bool false])) (put6 w7 w.heap.size zeroI)) := Lib.hid (GivesPI.none_ HN.out HBB.out)
      unfold put6 zeroI at p0 p1 p2 p3 p4 p5 HF
      simp only at p0 p1 p2 p3 p4 p5 HF
      go_wp2_with fail
      generalize ((((((w7.setCell ⟨w.heap.size, 0, none⟩ (.int .i64 0)).setCell ⟨w.heap.size, 1, none⟩ (.int .i64 0)).setCell ⟨w.heap.size, 2, none⟩ (.int .i64 0)).setCell ⟨w.heap.size, 3, none⟩ (.int .i64 0)).setCell ⟨w.heap.size, 4, none⟩ (.int .i64 0)).setCell ⟨w.heap.size, 5, none⟩ (.string ⟨#[]⟩)) = w9 at *
      refine bodyPost_ret (v := .tuple #[.agg #[.int .i64 0, .int .i64 0, .int .i64 0, .int .i64 0, .int .i64 0, .string ⟨#[]⟩], .bool false]) (by simp [results, Tryz.results110, go_sem, p0, p1, p2, p3, p4, p5]; try rfl) rfl ?_
      exact HF.out
end Go.Proofs.YtgibhbplgiejpaaGreat
