/- The program's ParseInstr. -/
import Derived.Test.YthgcodbcafpmhaaDoorPrsI
import Derived.Deep.RegionHeld3
namespace Go.Proofs.YthgcodbcafpmhaaDoor
open Go.RowKit
set_option linter.unusedVariables false
set_option linter.unusedSimpArgs false
def zeroI : I := ⟨0, 0, 0, 0, 0, ⟨#[]⟩⟩
/-- An instruction comes back, or none. -/
def GivesPI (o : Option I) (w : World) (e : Ending) (w' : World) : Prop :=
  e = .returned (.tuple #[.agg #[.int .i64 (o.getD zeroI).op, .int .i64 (o.getD zeroI).a, .int .i64 (o.getD zeroI).b, .int .i64 (o.getD zeroI).c, .int .i64 (o.getD zeroI).d, .string (o.getD zeroI).name], .bool o.isSome]) ∧ Below w.heap.size w w'
theorem GivesPI.none_ {o : Option I} {w w' : World} (h : o = none) (hb : Below w.heap.size w w') : GivesPI o w (.returned (.tuple #[.agg #[.int .i64 0, .int .i64 0, .int .i64 0, .int .i64 0, .int .i64 0, .string ⟨#[]⟩], .bool false])) w' := by subst h; exact ⟨rfl, hb⟩
theorem GivesPI.some_ {o : Option I} {w w' : World} {op a b c d : Int} {nm : ByteArray} (h : o = some ⟨op, a, b, c, d, nm⟩) (hb : Below w.heap.size w w') : GivesPI o w (.returned (.tuple #[.agg #[.int .i64 op, .int .i64 a, .int .i64 b, .int .i64 c, .int .i64 d, .string nm], .bool true])) w' := by subst h; exact ⟨rfl, hb⟩
theorem split_len (sep : UInt8) : ∀ l : List UInt8, (splitB sep l).length ≤ l.length + 1
  | [] => by simp [splitB]
  | c :: l => by
    have h := split_len sep l
    rw [splitB]
    split
    · simp only [List.length_cons]; omega
    · split
      · simp
      · rename_i w ws hs
        rw [hs] at h
        simp only [List.length_cons] at h ⊢
        omega
theorem split_each (sep : UInt8) : ∀ (l : List UInt8), ∀ x ∈ splitB sep l, x.length ≤ l.length
  | [], x, h => by
    rw [splitB, List.mem_singleton] at h
    subst h
    exact Nat.le_refl _
  | c :: l, x, h => by
    have ih := split_each sep l
    rw [splitB] at h
    split at h
    · rcases List.mem_cons.1 h with rfl | h
      · simp
      · have := ih x h; simp only [List.length_cons]; omega
    · split at h
      · rw [List.mem_singleton] at h; subst h; simp
      · rename_i w ws hs
        rw [hs] at ih
        rcases List.mem_cons.1 h with rfl | h
        · have := ih w (by simp); simp only [List.length_cons]; omega
        · have := ih x (List.mem_cons_of_mem _ h); simp only [List.length_cons]; omega
/-- The result's box and the instruction's. -/
def PI2 (W : World) (g : Nat) (x : I) (wr : World) : Prop := Zb W.heap.size W.heap.size zero6 wr ∧ Box g (six6 x) wr ∧ Below W.heap.size W wr
section
variable {W wr w' : World} {g : Nat} {x : I}
theorem PI2.below (h : PI2 W g x wr) (hb : Below wr.heap.size wr w') : PI2 W g x w' := ⟨h.1.below hb, h.2.1.below hb, h.2.2.trans (hb.mono h.2.2.size)⟩
theorem PI2.drew (h : PI2 W g x wr) : PI2 W g x wr.drew := ⟨h.1.drew, h.2.1.drew, h.2.2.drew⟩
theorem PI2.cells (h : PI2 W g x wr) : wr.cell? ⟨g, 0, none⟩ = some (.int .i64 x.op) ∧ wr.cell? ⟨g, 1, none⟩ = some (.int .i64 x.a) ∧ wr.cell? ⟨g, 2, none⟩ = some (.int .i64 x.b) ∧ wr.cell? ⟨g, 3, none⟩ = some (.int .i64 x.c) ∧ wr.cell? ⟨g, 4, none⟩ = some (.int .i64 x.d) ∧ wr.cell? ⟨g, 5, none⟩ = some (.string x.name) :=
  ⟨h.2.1.2 0 _ rfl, h.2.1.2 1 _ rfl, h.2.1.2 2 _ rfl, h.2.1.2 3 _ rfl, h.2.1.2 4 _ rfl, h.2.1.2 5 _ rfl⟩
theorem PI2.res (h : PI2 W g x wr) : Zb W.heap.size W.heap.size [.int .i64 0, .int .i64 0, .int .i64 0, .int .i64 0, .int .i64 0, .string ⟨#[]⟩] wr := h.1
end
theorem fmt_ne {x : I} {s : ByteArray} (h : fmtI x ≠ s.data.toList) : ¬ (⟨(fmtI x).toArray⟩ : ByteArray) = s := fun e => h (by rw [← e])
set_option maxRecDepth 100000 in
set_option maxHeartbeats 8000000 in
theorem implPrs (s : ByteArray) (w : World) (hs : s.size ≤ 1099511627776) (hV : Vars w) : Calls Tryd.prog 10 #[.string s] w (GivesPI (parseI s.data.toList) w) := by
  have HV := Lib.hid hV
  have Z0 := Lib.hid (Zb.new (B := w.heap.size) w #[.int .i64 0, .int .i64 0, .int .i64 0, .int .i64 0, .int .i64 0, .string ⟨#[]⟩] 26 (Nat.le_refl _))
  have B0 : Hid (Below w.heap.size w (w.alloc (.cells #[.int .i64 0, .int .i64 0, .int .i64 0, .int .i64 0, .int .i64 0, .string ⟨#[]⟩] 26))) := Lib.hid (by go_grown)
  have hlen := split_len 32 s.data.toList
  have HEA := Lib.hid (split_each 32 s.data.toList)
  have hsl : s.data.toList.length = s.size := rfl
  rw [hsl] at hlen HEA
  have HL : Hid (∀ x ∈ splitB 32 s.data.toList, x.length ≤ 140737488351232) := Lib.hid (fun x hx => by have := HEA.out x hx; omega)
  clear hV hsl HEA
  obtain ⟨x, hx⟩ : ∃ x, candP (splitB 32 s.data.toList) = x := ⟨_, rfl⟩
  have HS1 : Hid (isI x = true → fmtI x = s.data.toList → parseI s.data.toList = some x) := Lib.hid (fun h1 h2 => by rw [← hx] at h1 h2 ⊢; exact prog_some h1 h2)
  have HS2 : Hid ((isI x = true → fmtI x ≠ s.data.toList) → parseI s.data.toList = none) := Lib.hid (fun h => by rw [← hx] at h; exact prog_none h)
  have HX := Lib.hid hx
  clear hx
  obtain ⟨v, hv⟩ : ∃ v, isI x = v := ⟨_, rfl⟩
  have HVV := Lib.hid hv
  clear hv
  obtain ⟨op, a, b, c, d, nm⟩ := x
  go_enter Tryd.func10, Tryd.ntmps10
  go_wp2_with fail
  refine (implSplit s 32 _ hs (by decide)).mono ?_
  rintro e w1 ⟨A1, n1, c1, rfl, hW1, hb⟩
  have HW1 := Lib.hid hW1
  have hn1 : n1 ≤ 1099511627777 := by rw [← hW1.1]; omega
  replace Z0 := Lib.hid (Z0.out.below hb)
  replace B0 := Lib.hid (B0.out.trans (hb.mono B0.out.size))
  clear hb hW1
  go_wp2_with fail
  refine (implRead _ A1 n1 c1 _ HW1.out hn1 HL.out (HV.out.below B0.out)).mono ?_
  rintro e w2 ⟨rfl, hb⟩
  rw [HX.out]
  replace Z0 := Lib.hid (Z0.out.below hb)
  replace B0 := Lib.hid (B0.out.trans (hb.mono B0.out.size))
  clear hb
  have P0 : Hid (PI2 w w2.heap.size ⟨op, a, b, c, d, nm⟩ (w2.alloc (.cells #[.int .i64 op, .int .i64 a, .int .i64 b, .int .i64 c, .int .i64 d, .string nm] 26))) := Lib.hid ⟨Z0.out.below ((Below.refl _ _).alloc (Nat.le_refl _) _), Box.new w2 #[.int .i64 op, .int .i64 a, .int .i64 b, .int .i64 c, .int .i64 d, .string nm] 26, B0.out.alloc B0.out.size _⟩
  obtain ⟨k0, k1, k2, k3, k4, k5⟩ := P0.out.cells
  cases v with
  | false =>
    have HN := Lib.hid (HS2.out (fun h => by rw [HVV.out] at h; cases h))
    go_wp2_with fail
    refine (implIs ⟨op, a, b, c, d, nm⟩ _).mono ?_
    rintro e w3 ⟨rfl, hb⟩
    rw [HVV.out]
    have P1 := Lib.hid (P0.out.below hb)
    clear hb k0 k1 k2 k3 k4 k5
    obtain ⟨⟨z0, z1, z2, z3, z4, z5⟩, y0, y1, y2, y3, y4, y5⟩ := P1.out.res.six
    have HQ := Lib.hid (P1.out.res.put6 zeroI)
    have HBB := Lib.hid (below_put6 P1.out.2.2 (Nat.le_refl _) zeroI)
    obtain ⟨p0, p1, p2, p3, p4, p5⟩ := HQ.out.six.1
    have HF : Hid (GivesPI (parseI s.data.toList) w (.returned (.tuple #[.agg #[.int .i64 0, .int .i64 0, .int .i64 0, .int .i64 0, .int .i64 0, .string ⟨#[]⟩], .bool false])) (put6 w3 w.heap.size zeroI)) := Lib.hid (GivesPI.none_ HN.out HBB.out)
    unfold put6 zeroI at p0 p1 p2 p3 p4 p5 HF
    simp only at p0 p1 p2 p3 p4 p5 HF
    go_wp2_with fail
    generalize ((((((w3.setCell ⟨w.heap.size, 0, none⟩ (.int .i64 0)).setCell ⟨w.heap.size, 1, none⟩ (.int .i64 0)).setCell ⟨w.heap.size, 2, none⟩ (.int .i64 0)).setCell ⟨w.heap.size, 3, none⟩ (.int .i64 0)).setCell ⟨w.heap.size, 4, none⟩ (.int .i64 0)).setCell ⟨w.heap.size, 5, none⟩ (.string ⟨#[]⟩)) = w9 at *
    refine bodyPost_ret (v := .tuple #[.agg #[.int .i64 0, .int .i64 0, .int .i64 0, .int .i64 0, .int .i64 0, .string ⟨#[]⟩], .bool false]) (by simp [results, Tryd.results10, go_sem, p0, p1, p2, p3, p4, p5]; try rfl) rfl ?_
    exact HF.out
  | true =>
    go_wp2_with fail
    refine (implIs ⟨op, a, b, c, d, nm⟩ _).mono ?_
    rintro e w3 ⟨rfl, hb⟩
    rw [HVV.out]
    have P1 := Lib.hid (P0.out.below hb)
    clear hb k0 k1 k2 k3 k4 k5
    obtain ⟨k0, k1, k2, k3, k4, k5⟩ := P1.out.cells
    go_wp2_with fail
    refine (implFmt ⟨op, a, b, c, d, nm⟩ _ (HV.out.below P1.out.2.2).pow).mono ?_
    rintro e w4 ⟨rfl, hb⟩
    have P2 := Lib.hid (P1.out.below hb)
    clear hb k0 k1 k2 k3 k4 k5
    obtain ⟨⟨z0, z1, z2, z3, z4, z5⟩, y0, y1, y2, y3, y4, y5⟩ := P2.out.res.six
    by_cases he : fmtI ⟨op, a, b, c, d, nm⟩ = s.data.toList
    · have HN := Lib.hid (HS1.out HVV.out he)
      have hes : (⟨(fmtI ⟨op, a, b, c, d, nm⟩).toArray⟩ : ByteArray) = s := by rw [he]
      rw [hes]
      have hq1 : (s.toList != s.toList) = false := by simp
      clear he hes
      obtain ⟨k0, k1, k2, k3, k4, k5⟩ := P2.out.cells
      have HQ := Lib.hid (P2.out.res.put6 ⟨op, a, b, c, d, nm⟩)
      have HBB := Lib.hid (below_put6 P2.out.2.2 (Nat.le_refl _) ⟨op, a, b, c, d, nm⟩)
      obtain ⟨p0, p1, p2, p3, p4, p5⟩ := HQ.out.six.1
      have HF : Hid (GivesPI (parseI s.data.toList) w (.returned (.tuple #[.agg #[.int .i64 op, .int .i64 a, .int .i64 b, .int .i64 c, .int .i64 d, .string nm], .bool true])) (put6 w4 w.heap.size ⟨op, a, b, c, d, nm⟩)) := Lib.hid (GivesPI.some_ HN.out HBB.out)
      unfold put6 at p0 p1 p2 p3 p4 p5 HF
      simp only at p0 p1 p2 p3 p4 p5 HF
      go_wp2_with fail
      generalize ((((((w4.setCell ⟨w.heap.size, 0, none⟩ (.int .i64 op)).setCell ⟨w.heap.size, 1, none⟩ (.int .i64 a)).setCell ⟨w.heap.size, 2, none⟩ (.int .i64 b)).setCell ⟨w.heap.size, 3, none⟩ (.int .i64 c)).setCell ⟨w.heap.size, 4, none⟩ (.int .i64 d)).setCell ⟨w.heap.size, 5, none⟩ (.string nm)) = w9 at *
      refine bodyPost_ret (v := .tuple #[.agg #[.int .i64 op, .int .i64 a, .int .i64 b, .int .i64 c, .int .i64 d, .string nm], .bool true]) (by simp [results, Tryd.results10, go_sem, p0, p1, p2, p3, p4, p5]; try rfl) rfl ?_
      exact HF.out
    · have HN := Lib.hid (HS2.out (fun _ => he))
      have h1 := str_ne (fmt_ne he)
      have h2 := str_ne' (fmt_ne he)
      have h3 : ((⟨(fmtI ⟨op, a, b, c, d, nm⟩).toArray⟩ : ByteArray).toList != s.toList) = true := by rw [bne, h1]; rfl
      generalize (⟨(fmtI ⟨op, a, b, c, d, nm⟩).toArray⟩ : ByteArray) = t at *
      clear he
      have HQ := Lib.hid (P2.out.res.put6 zeroI)
      have HBB := Lib.hid (below_put6 P2.out.2.2 (Nat.le_refl _) zeroI)
      obtain ⟨p0, p1, p2, p3, p4, p5⟩ := HQ.out.six.1
      have HF : Hid (GivesPI (parseI s.data.toList) w (.returned (.tuple #[.agg #[.int .i64 0, .int .i64 0, .int .i64 0, .int .i64 0, .int .i64 0, .string ⟨#[]⟩], .bool false])) (put6 w4 w.heap.size zeroI)) := Lib.hid (GivesPI.none_ HN.out HBB.out)
      unfold put6 zeroI at p0 p1 p2 p3 p4 p5 HF
      simp only at p0 p1 p2 p3 p4 p5 HF
      go_wp2_with fail
      generalize ((((((w4.setCell ⟨w.heap.size, 0, none⟩ (.int .i64 0)).setCell ⟨w.heap.size, 1, none⟩ (.int .i64 0)).setCell ⟨w.heap.size, 2, none⟩ (.int .i64 0)).setCell ⟨w.heap.size, 3, none⟩ (.int .i64 0)).setCell ⟨w.heap.size, 4, none⟩ (.int .i64 0)).setCell ⟨w.heap.size, 5, none⟩ (.string ⟨#[]⟩)) = w9 at *
      refine bodyPost_ret (v := .tuple #[.agg #[.int .i64 0, .int .i64 0, .int .i64 0, .int .i64 0, .int .i64 0, .string ⟨#[]⟩], .bool false]) (by simp [results, Tryd.results10, go_sem, p0, p1, p2, p3, p4, p5]; try rfl) rfl ?_
      exact HF.out
end Go.Proofs.YthgcodbcafpmhaaDoor
