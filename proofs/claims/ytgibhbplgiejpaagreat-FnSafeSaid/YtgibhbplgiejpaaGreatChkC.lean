/- Chapter 8, the program's: where a register is read first, though some way there does not set it. -/
import Derived.Test.YtgibhbplgiejpaaGreatChkB
namespace Go.Proofs.YtgibhbplgiejpaaGreat
open Go.RowKit
set_option linter.unusedVariables false
set_option linter.unusedSimpArgs false
theorem un_off {x : I} {r : Int} {n i : Nat} {U : List Bool} (h : U[i]? = some false) : unStep x r n i U = U := by
  rw [unStep, if_pos (by rw [List.getD_eq_getElem?_getD, h]; rfl)]
theorem un_on {U : List Bool} {i : Nat} (h : U[i]? = some true) : ¬ U.getD i false = false := by rw [List.getD_eq_getElem?_getD, h]; simp
theorem un_stop {x : I} {r : Int} {n i : Nat} {U : List Bool} (h : U[i]? = some true) (h2 : x.op = 10 ∨ setsR x r = true) : unStep x r n i U = U := by
  rw [unStep, if_neg (un_on h), if_pos h2]
theorem un_skip {x : I} {r : Int} {n i : Nat} {U : List Bool} (h : U[i]? = some true) (h1 : setsR x r = false) (h9 : x.op = 9) : unStep x r n i U = (U.set (behind (i + 1) x.b n) true).set (i + 1) true := by
  rw [unStep, if_neg (un_on h), if_neg (by rw [h1]; simp [h9]), if_pos h9]
theorem un_go {x : I} {r : Int} {n i : Nat} {U : List Bool} (h : U[i]? = some true) (h1 : setsR x r = false) (h10 : ¬ x.op = 10) (h9 : ¬ x.op = 9) : unStep x r n i U = U.set (i + 1) true := by
  rw [unStep, if_neg (un_on h), if_neg (by rw [h1]; simp [h10]), if_neg h9]
structure UnS (W : World) (L : List I) (n : Nat) (r : Int) (g i : Nat) (w : World) : Prop where
  own : Owns w (bools (unAt L r i)) [.slice (some ⟨g, 0, none⟩) (n + 1) (n + 1)] (fun b => b = g)
  low : Below W.heap.size W w
  no : ∀ j, j < i → badR L r j = false
  base : W.heap.size ≤ g
  len : L.length = n
section
variable {W w w2 : World} {L : List I} {n : Nat} {r : Int} {g i : Nat} {x : I}
theorem UnS.cellAt (h : UnS W L n r g i w) (hi : i < n) : ∃ v, (unAt L r i)[i]? = some v ∧ w.cell? ⟨g, i, none⟩ = some (.bool v) ∧ w.frozen? ⟨g, i, none⟩ = false := own_slot h.own (by omega)
theorem UnS.step (h : UnS W L n r g i w) (hno : badR L r i = false) (hb : Below W.heap.size W w2) (ho : Owns w2 (bools (unAt L r (i + 1))) [.slice (some ⟨g, 0, none⟩) (n + 1) (n + 1)] (fun b => b = g)) : UnS W L n r g (i + 1) w2 :=
  ⟨ho, hb, fun j hj => by
    by_cases e : j < i
    · exact h.no j e
    · obtain rfl : j = i := by omega
      exact hno, h.base, h.len⟩
theorem UnS.same (h : UnS W L n r g i w) (hx : L[i]? = some x) (hs : unStep x r n i (unAt L r i) = unAt L r i) (hno : badR L r i = false) (hb : Below w.heap.size w w2) : UnS W L n r g (i + 1) w2 :=
  h.step hno (h.low.trans (hb.mono h.low.size)) (by rw [unAt_next hx, h.len, hs]; exact h.own.below hb)
theorem UnS.off (h : UnS W L n r g i w) (hx : L[i]? = some x) (hv : (unAt L r i)[i]? = some false) (hb : Below w.heap.size w w2) : UnS W L n r g (i + 1) w2 :=
  h.same hx (un_off hv) (badR_no (by rw [List.getD_eq_getElem?_getD, hv]; rfl)) hb
theorem UnS.one (h : UnS W L n r g i w) (hx : L[i]? = some x) (hi : i < n) (hs : unStep x r n i (unAt L r i) = (unAt L r i).set (i + 1) true) (hno : badR L r i = false) (hb : Below w.heap.size w w2) : UnS W L n r g (i + 1) (w2.setCell ⟨g, i + 1, none⟩ (.bool true)) :=
  h.step hno ((h.low.trans (hb.mono h.low.size)).setCell (p := ⟨g, i + 1, none⟩) h.base _) (by rw [unAt_next hx, h.len, hs]; exact own_set (h.own.below hb) (by omega) true)
theorem UnS.two {k : Nat} (h : UnS W L n r g i w) (hx : L[i]? = some x) (hi : i < n) (hk : k ≤ n) (hs : unStep x r n i (unAt L r i) = ((unAt L r i).set k true).set (i + 1) true) (hno : badR L r i = false) (hb : Below w.heap.size w w2) :
    UnS W L n r g (i + 1) ((w2.setCell ⟨g, k, none⟩ (.bool true)).setCell ⟨g, i + 1, none⟩ (.bool true)) :=
  h.step hno (((h.low.trans (hb.mono h.low.size)).setCell (p := ⟨g, k, none⟩) h.base _).setCell (p := ⟨g, i + 1, none⟩) h.base _) (by rw [unAt_next hx, h.len, hs]; exact own_set (own_set (h.own.below hb) (by omega) true) (by omega) true)
theorem UnS.slot (h : UnS W L n r g i w) (hb : Below w.heap.size w w2) {k : Nat} (hk : k ≤ n) : (∃ u, w2.cell? ⟨g, k, none⟩ = some u) ∧ w2.frozen? ⟨g, k, none⟩ = false := by
  obtain ⟨v, -, h1, h2⟩ := own_slot (h.own.below hb) (j := k) (by omega)
  exact ⟨⟨_, h1⟩, h2⟩
theorem UnS.slot2 (h : UnS W L n r g i w) (hb : Below w.heap.size w w2) {k k2 : Nat} (hk : k ≤ n) (hk2 : k2 ≤ n) : (∃ u, (w2.setCell ⟨g, k, none⟩ (.bool true)).cell? ⟨g, k2, none⟩ = some u) ∧ (w2.setCell ⟨g, k, none⟩ (.bool true)).frozen? ⟨g, k2, none⟩ = false := by
  obtain ⟨v, -, h1, h2⟩ := own_slot (own_set (j := k) (h.own.below hb) (by omega) true) (j := k2) (by omega)
  exact ⟨⟨_, h1⟩, h2⟩
end
theorem UnS.start {W w1 : World} {L : List I} {n base : Nat} {r : Int} (hown : w1.ownsRow base 4 1 (.slice (some ⟨W.heap.size, 0, none⟩) (n + 1) (n + 1)) (n + 1) (madeCells #[.bool false] (n + 1)).toList) (hb : Below W.heap.size W w1) (hn : L.length = n) :
    UnS W L n r W.heap.size 0 (w1.setCell ⟨W.heap.size, 0, none⟩ (.bool true)) := by
  refine ⟨?_, hb.setCell (p := ⟨W.heap.size, 0, none⟩) (Nat.le_refl _) _, fun j hj => by omega, Nat.le_refl _, hn⟩
  rw [unAt, hn]
  exact own_set (own_made hown) (by omega) true
set_option maxRecDepth 100000 in
set_option maxHeartbeats 8000000 in
theorem implFirst (L : List Dat) (A : Option Addr) (n c : Nat) (r : Int) (w : World) (h : Lies w (.l L) [.slice A n c]) (ht : ∀ x ∈ L, Has tyInstr x) (hn : n ≤ 1099511627776) :
    Calls Tryz.prog 30 #[.slice A n c, .int .i64 r] w (GivesInt (firstR (insL L) r) w) := by
  obtain ⟨i0, hi, hz0, hz1, hz2⟩ := info_parts infoBool
  have H := Lib.hid h
  have HT := Lib.hid ht
  have HC := Lib.hid h.count
  clear h ht
  go_enter Tryz.func30, Tryz.ntmps30
  go_wp2_with (refine wpList_make_full _ rfl _ _ 57 rfl w.heap.size 4 i0 (.bool false) 1 Tryz.underlying57 hi hz0 hz1 _ _ ((n : Int) + 1) ((n : Int) + 1) (n + 1) rfl rfl (by omega) (by omega) (by rw [hz2]; omega) (by unfold maxLen; omega) (Nat.le_refl _) ?_)
  intro w1 hown hgrow
  have hb1 := (Below.refl w.heap.size w).grown hgrow (Nat.le_refl _) (fun k h => by cases h)
  have U0 := Lib.hid (UnS.start (L := insL L) (r := r) hown hb1 (by rw [insL_len]; exact HC.out))
  obtain ⟨u, -, hc0, hf0⟩ := own_slot (own_made hown) (j := 0) (by omega)
  clear hown hgrow hb1
  go_wp2
  go_loopw [16] (fun iv wr => ∃ i : Nat, i ≤ n ∧ iv = .int .i64 i ∧ UnS w (insL L) n r w.heap.size i wr) (fun iv _ => n - (intOf iv).toNat)
  case atStart => exact ⟨0, Nat.zero_le _, rfl, U0.out⟩
  case round =>
    obtain ⟨i, hin, rfl, hU⟩ := hrel
    have U := Lib.hid hU
    clear hU U0 hc0 hf0
    by_cases hlt : i < n
    · obtain ⟨b, off, d, xs, rfl, hbw, hzi, hlie, hlen, hcell⟩ := (H.out.below U.out.low).elem (fun x hx => (HT.out x hx).width) hlt
      obtain ⟨f0, f1, f2, f3, f4, f5, hd, rfl, hf5⟩ := invInstr (HT.out d (List.mem_of_getElem? hzi)) hlie
      have r0 : wr.cell? ⟨b, off + i * 6, none⟩ = some (.int .i64 f0) := hcell 0 _ rfl
      have r1 : wr.cell? ⟨b, off + i * 6 + 1, none⟩ = some (.int .i64 f1) := hcell 1 _ rfl
      have r2 : wr.cell? ⟨b, off + i * 6 + 2, none⟩ = some (.int .i64 f2) := hcell 2 _ rfl
      have r3 : wr.cell? ⟨b, off + i * 6 + 3, none⟩ = some (.int .i64 f3) := hcell 3 _ rfl
      have r4 : wr.cell? ⟨b, off + i * 6 + 4, none⟩ = some (.int .i64 f4) := hcell 4 _ rfl
      have r5 : wr.cell? ⟨b, off + i * 6 + 5, none⟩ = some (.string f5) := hcell 5 _ rfl
      have X1 := Lib.hid (Boxed.mk_ wr f0 f1 f2 f3 f4 f5 32)
      obtain ⟨v, hv, hcv, hfv⟩ := own_slot (U.out.own.below X1.out.2) (j := i) (by omega)
      have HX := Lib.hid (insL_at hzi)
      have HD := Lib.hid hd
      have HI : Hid (insOf d = ⟨f0, f1, f2, f3, f4, f5⟩) := Lib.hid (by rw [hd]; rfl)
      have HV := Lib.hid hv
      clear hzi hcell hlie hd hv
      cases v with
      | false =>
        have HN := Lib.hid (U.out.off HX.out HV.out X1.out.2)
        go_wp2_with fail
        go_roundw
        case rel => exact ⟨i + 1, by omega, by go_num, HN.out⟩
        case measure => simp [intOf]; omega
      | true =>
        go_wp2_with fail
        refine (implRegsD d f0 f1 f2 f3 f4 f5 _ HD.out).mono ?_
        rintro e w2 ⟨A2, m2, c2, rfl, hO2, hb2⟩
        have hm2 : m2 ≤ 3 := by have h1 := hO2.1; have h2 := regsOf_len (insOf d); omega
        have HZ := Lib.hid hO2.rz
        have X2 := Lib.hid (X1.out.below hb2)
        clear hO2 hb2 hcv
        obtain ⟨q, hq⟩ : ∃ q, (regsOf (insOf d)).contains r = q := ⟨_, rfl⟩
        have HQ := Lib.hid hq
        clear hq
        go_wp2_with fail
        refine (hasInt _ r A2 m2 c2 _ HZ.out (by omega)).mono ?_
        rintro e w3 ⟨rfl, hb3⟩
        rw [HQ.out]
        have X3 := Lib.hid (X2.out.below hb3)
        clear hb3
        cases q with
        | true =>
          have HE : Hid ((i : Int) = firstR (insL L) r) := Lib.hid (firstP_at U.out.no (by rw [U.out.len]; exact hlt) (badR_yes HX.out (by rw [List.getD_eq_getElem?_getD, HV.out]; rfl) HQ.out)).symm
          have HB := Lib.hid (U.out.low.trans (X3.out.2.mono U.out.low.size))
          go_wp2_with fail
          go_ret
          exact GivesInt.ret HE.out HB.out
        | false =>
          have HNO := Lib.hid (badR_no' HX.out HQ.out)
          obtain ⟨s0, s1, s2, s3, s4, s5⟩ := X3.out.six
          by_cases h10 : f0 = 10
          · subst h10
            have HN := Lib.hid (U.out.same HX.out (un_stop HV.out (Or.inl (by rw [HI.out]))) HNO.out X3.out.2)
            go_wp2_with fail
            go_roundw
            case rel => exact ⟨i + 1, by omega, by go_num, HN.out⟩
            case measure => simp [intOf]; omega
          · have h10b : (f0 == 10) = false := by simpa using h10
            have H10 := Lib.hid h10
            obtain ⟨q, hq⟩ : ∃ q, setsR (insOf d) r = q := ⟨_, rfl⟩
            have HS := Lib.hid hq
            clear hq h10
            go_wp2_with fail
            refine (implSets d f0 f1 f2 f3 f4 f5 r _ HD.out).mono ?_
            rintro e w4 ⟨rfl, hb4⟩
            rw [HS.out]
            have X4 := Lib.hid (X3.out.below hb4)
            clear hb4 s0 s1 s2 s3 s4 s5
            cases q with
            | true =>
              have HN := Lib.hid (U.out.same HX.out (un_stop HV.out (Or.inr HS.out)) HNO.out X4.out.2)
              go_wp2_with fail
              go_roundw
              case rel => exact ⟨i + 1, by omega, by go_num, HN.out⟩
              case measure => simp [intOf]; omega
            | false =>
              obtain ⟨s0, s1, s2, s3, s4, s5⟩ := X4.out.six
              by_cases h9 : f0 = 9
              · subst h9
                have hk := behind_le (n := n) f2 (by omega : i + 1 ≤ n)
                have HUN : Hid (unStep (insOf d) r n i (unAt (insL L) r i) = ((unAt (insL L) r i).set (behind (i + 1) f2 n) true).set (i + 1) true) := Lib.hid (by have h1 := un_skip (x := insOf d) (n := n) HV.out HS.out (by rw [HI.out]); rw [h1, HI.out])
                go_wp2_with fail
                refine (implBehind (i + 1) n f2 _ (by omega) (by omega)).mono ?_
                rintro e w5 ⟨rfl, hb5⟩
                have X5 := Lib.hid (X4.out.below hb5)
                clear hb5 s0 s1 s2 s3 s4 s5
                generalize behind (i + 1) f2 n = k at *
                obtain ⟨⟨u1, g1⟩, g2⟩ := U.out.slot X5.out.2 hk
                obtain ⟨⟨u2, g3⟩, g4⟩ := U.out.slot2 X5.out.2 hk (k2 := i + 1) (by omega)
                have HN := Lib.hid (U.out.two HX.out hlt hk HUN.out HNO.out X5.out.2)
                go_wp2_with fail
                go_roundw
                case rel => exact ⟨i + 1, by omega, by go_num, HN.out⟩
                case measure => simp [intOf]; omega
              · have h9b : (f0 == 9) = false := by simpa using h9
                have HUN := Lib.hid (un_go (x := insOf d) (n := n) HV.out HS.out (by rw [HI.out]; exact H10.out) (by rw [HI.out]; exact h9))
                obtain ⟨⟨u1, g1⟩, g2⟩ := U.out.slot X4.out.2 (k := i + 1) (by omega)
                have HN := Lib.hid (U.out.one HX.out hlt HUN.out HNO.out X4.out.2)
                clear h9
                go_wp2_with fail
                go_roundw
                case rel => exact ⟨i + 1, by omega, by go_num, HN.out⟩
                case measure => simp [intOf]; omega
    · have HE : Hid (-1 = firstR (insL L) r) := Lib.hid (firstP_none (p := badR (insL L) r) (fun j hj => U.out.no j (by have h1 := U.out.len; omega))).symm
      have HB := Lib.hid U.out.low
      go_wp2
      go_ret
      exact GivesInt.ret HE.out HB.out
end Go.Proofs.YtgibhbplgiejpaaGreat
