/- Chapter 8, the reference's FirstUnset: for every method, whatever its instructions. -/
import Derived.Test.YtgibhbplgiejpaaGreatChkN
import Derived.Test.YtgibhbplgiejpaaGreatSpecSA
import Derived.Deep.RegionHeld3
import Derived.Deep.RegionLaw
import Derived.IntWalk
namespace Go.Proofs.YtgibhbplgiejpaaGreat
open Go.RowKit
set_option linter.unusedVariables false
set_option linter.unusedSimpArgs false
theorem infoBools : (Tryz.prog.info? 57).map (fun i => (i.zero, i.size, i.bytes)) = some (some (.slice none 0 0), 1, 24) := by kernel_rfl
theorem rows_made {w : World} {base : Nat} {E : TypeId} {n g : Nat} (h : w.ownsRow base E 1 (.slice (some ⟨g, 0, none⟩) n n) n (madeCells #[.slice none 0 0] n).toList) : Owns w (rowsD (List.replicate n [])) [.slice (some ⟨g, 0, none⟩) n n] (fun b => b = g) := by
  have hz : ∀ w, Owns w (bools []) (#[.slice none 0 0] : Array Value).toList (fun _ => False) := fun w => by unfold bools; rw [Owns]; exact ⟨none, 0, 0, rfl, rfl, Or.inl rfl⟩
  have h1 := Owns.made (z := bools []) (zc := #[.slice none 0 0]) (n := n) hz (by rw [show (#[Value.slice none 0 0]).size = 1 from rfl, Nat.mul_one]; exact h)
  unfold rowsD
  rw [List.map_replicate]
  exact h1
theorem row_lt {w : World} {base : Nat} {E : TypeId} {g n m : Nat} {xs : List Value} (h : w.ownsRow base E 1 (.slice (some ⟨g, 0, none⟩) n m) n xs) : g < w.heap.size := (h.lt g rfl).2
/-- The tables as they are made. -/
theorem FlQ.start {W w1 w2 w3 : World} {nm : ByteArray} {A : Option Addr} {n c b1 b2 b3 : Nat} {T E1 E2 E3 : TypeId}
    (h1 : w1.ownsRow b1 E1 1 (.slice (some ⟨W.heap.size + 1, 0, none⟩) (n + 1) (n + 1)) (n + 1) (madeCells #[.slice none 0 0] (n + 1)).toList) (hb1 : Below (W.alloc (.cells #[.string nm, .slice A n c] T)).heap.size (W.alloc (.cells #[.string nm, .slice A n c] T)) w1)
    (h2 : w2.ownsRow b2 E2 1 (.slice (some ⟨w1.heap.size, 0, none⟩) (n + 1) (n + 1)) (n + 1) (madeCells #[.bool false] (n + 1)).toList) (hb2 : Below w1.heap.size w1 w2)
    (h3 : w3.ownsRow b3 E3 1 (.slice (some ⟨w2.heap.size, 0, none⟩) 8 8) 8 (madeCells #[.bool false] 8).toList) (hb3 : Below w2.heap.size w2 w3) :
    FlQ W nm A n c (W.heap.size + 1) w1.heap.size (fun b => b = W.heap.size + 1) (List.replicate (n + 1) []) (List.replicate (n + 1) false) w3 ∧
      FlQ W nm A n c (W.heap.size + 1) w1.heap.size (fun b => b = W.heap.size + 1 ∨ b = w2.heap.size) ((List.replicate (n + 1) []).set 0 (List.replicate 8 false)) (List.replicate (n + 1) false) (w3.setCell ⟨W.heap.size + 1, 0, none⟩ (.slice (some ⟨w2.heap.size, 0, none⟩) 8 8)) ∧
      FlQ W nm A n c (W.heap.size + 1) w1.heap.size (fun b => b = W.heap.size + 1 ∨ b = w2.heap.size) ((List.replicate (n + 1) []).set 0 (List.replicate 8 false)) ((List.replicate (n + 1) false).set 0 true) ((w3.setCell ⟨W.heap.size + 1, 0, none⟩ (.slice (some ⟨w2.heap.size, 0, none⟩) 8 8)).setCell ⟨w1.heap.size, 0, none⟩ (.bool true)) := by
  have l1 := row_lt h1
  have l2 := row_lt h2
  have l3 := row_lt h3
  have s2 := hb2.size
  have s3 := hb3.size
  rw [World.size_alloc] at hb1
  have hbw : Below W.heap.size W w1 := ((Below.refl W.heap.size W).alloc (Nat.le_refl _) _).trans (hb1.mono (by omega))
  have hx : Box W.heap.size [.string nm, .slice A n c] w1 := by
    have h0 := Box.new W #[.string nm, .slice A n c] T
    exact ⟨by omega, fun i v hv => (hb1.cell (p := ⟨W.heap.size, i, none⟩) (by show W.heap.size < _; omega)).trans (h0.2 i v hv)⟩
  have q : FlQ W nm A n c (W.heap.size + 1) w1.heap.size (fun b => b = W.heap.size + 1) (List.replicate (n + 1) []) (List.replicate (n + 1) false) w3 :=
    ⟨((rows_made h1).below hb2).below hb3, (own_made h2).below hb3, (hx.below hb2).below hb3, (hbw.trans (hb2.mono (by omega))).trans (hb3.mono (by omega)), fun b hb => by subst hb; exact ⟨by omega, by omega, by omega⟩, ⟨by omega, by omega⟩⟩
  have q2 := q.row (j := 0) (Nat.zero_le _) (own_made h3) (fun b e => by subst e; exact ⟨by omega, by omega, by omega, by omega⟩)
  exact ⟨q, q2, q2.mark (Nat.zero_le _)⟩
/-! ### The plain step, case by case -/
section
variable {J : List I} {R : List (List Bool)} {G : List Bool} {i : Nat} {x : I}
theorem getD_of {U : List Bool} {i : Nat} {v : Bool} (h : U[i]? = some v) : U.getD i false = v := by rw [List.getD_eq_getElem?_getD, h]; rfl
theorem getD_ofR {U : List (List Bool)} {i : Nat} {v : List Bool} (h : U[i]? = some v) : U.getD i [] = v := by rw [List.getD_eq_getElem?_getD, h]; rfl
theorem fl_off (h : flAt J i = ⟨R, G⟩) (hx : J[i]? = some x) (hG : G[i]? = some false) : flAt J (i + 1) = ⟨R, G⟩ ∧ badF J i = false := by
  refine ⟨?_, ?_⟩
  · rw [flAt_next hx, h, flStep, if_pos (getD_of hG)]
  · rw [badF, h, getD_of hG]; rfl
theorem fl_on {G : List Bool} (hG : G[i]? = some true) : ¬ G.getD i false = false := by rw [getD_of hG]; simp
theorem fl_ret (h : flAt J i = ⟨R, G⟩) (hx : J[i]? = some x) (hG : G[i]? = some true) (h10 : x.op = 10) : flAt J (i + 1) = ⟨R, G⟩ := by
  rw [flAt_next hx, h, flStep, if_neg (fl_on hG), if_pos h10]
theorem fl_go {row row1 : List Bool} {v1 : Bool} {t : Int} (h : flAt J i = ⟨R, G⟩) (hx : J[i]? = some x) (hG : G[i]? = some true) (hR : R[i]? = some row) (h10 : ¬ x.op = 10) (h9 : ¬ x.op = 9) (ht : targetOf x = t) (hR1 : R[i + 1]? = some row1) (hG1 : G[i + 1]? = some v1) :
    flAt J (i + 1) = ⟨R.set (i + 1) (meetL row1 (nowOf row t) v1), G.set (i + 1) true⟩ := by
  rw [flAt_next hx, h, flStep, if_neg (fl_on hG), if_neg h10, if_neg h9, Flow.put]
  simp only [getD_ofR hR, getD_ofR hR1, getD_of hG1, ht]
theorem fl_skip {row row1 row2 : List Bool} {v1 v2 : Bool} {t : Int} {k n : Nat} (h : flAt J i = ⟨R, G⟩) (hx : J[i]? = some x) (hn : J.length = n) (hG : G[i]? = some true) (hR : R[i]? = some row) (h9 : x.op = 9) (ht : targetOf x = t) (hR1 : R[i + 1]? = some row1) (hG1 : G[i + 1]? = some v1) (hk : behind (i + 1) x.b n = k)
    (hR2 : (R.set (i + 1) (meetL row1 (nowOf row t) v1))[k]? = some row2) (hG2 : (G.set (i + 1) true)[k]? = some v2) :
    flAt J (i + 1) = ⟨(R.set (i + 1) (meetL row1 (nowOf row t) v1)).set k (meetL row2 (nowOf row t) v2), (G.set (i + 1) true).set k true⟩ := by
  rw [flAt_next hx, h, flStep, if_neg (fl_on hG), if_neg (by rw [h9]; omega), if_pos h9, Flow.put, Flow.put]
  simp only [getD_ofR hR, getD_ofR hR1, getD_of hG1, ht, hn, hk, getD_ofR hR2, getD_of hG2]
theorem fl_len {n : Nat} (hn : J.length = n) (h : flAt J i = ⟨R, G⟩) {j : Nat} {row : List Bool} (hR : R[j]? = some row) (hG : G[j]? = some true) : row.length = 8 := by
  have h1 := (flAt_ok J i).yes j (by rw [h]; exact getD_of hG)
  rw [h] at h1
  rw [← getD_ofR hR]
  exact h1
theorem fl_len2 {n : Nat} {row row1 now : List Bool} {v1 : Bool} (hn : J.length = n) (h : flAt J i = ⟨R, G⟩) (hnow : now.length = 8) (hR1 : R[i + 1]? = some row1) (hG1 : G[i + 1]? = some v1) {j : Nat} (hR : (R.set (i + 1) (meetL row1 now v1))[j]? = some row) (hG : (G.set (i + 1) true)[j]? = some true) : row.length = 8 := by
  have h1 := (flAt_ok J i).put (k := i + 1) hnow
  rw [h, Flow.put] at h1
  simp only [getD_ofR hR1, getD_of hG1] at h1
  have h2 := h1.yes j (getD_of hG)
  rw [← getD_ofR hR]
  exact h2
theorem bad_val {row : List Bool} (h : flAt J i = ⟨R, G⟩) (hx : J[i]? = some x) (hG : G[i]? = some true) (hR : R[i]? = some row) : badF J i = (regsOf x).any fun r => !valR r row := by
  rw [badF, h, hx]
  simp only [getD_of hG, getD_ofR hR, Bool.true_and]
theorem bad_yes {row : List Bool} {r : Int} {k : Nat} (h : flAt J i = ⟨R, G⟩) (hx : J[i]? = some x) (hG : G[i]? = some true) (hR : R[i]? = some row) (hr : (regsOf x)[k]? = some r) (hv : valR r row = false) : badF J i = true := by
  rw [bad_val h hx hG hR, List.any_eq_true]
  exact ⟨r, List.mem_of_getElem? hr, by rw [hv]; rfl⟩
theorem bad_no {row : List Bool} {m : Nat} (h : flAt J i = ⟨R, G⟩) (hx : J[i]? = some x) (hG : G[i]? = some true) (hR : R[i]? = some row) (hm : (regsOf x).length = m) (hv : ∀ (k : Nat) (r : Int), k < m → (regsOf x)[k]? = some r → valR r row = true) : badF J i = false := by
  rw [bad_val h hx hG hR, List.any_eq_false]
  intro r hr
  obtain ⟨k, hk⟩ := List.mem_iff_getElem?.1 hr
  rw [hv k r (by rw [← hm]; exact (List.getElem?_eq_some_iff.1 hk).1) hk]
  simp
end
theorem nil_put {R : List (List Bool)} {G : List Bool} {row1 now : List Bool} {v1 : Bool} {i nr : Nat} (h : ∀ (j : Nat) (row : List Bool), R[j]? = some row → row = [] ∨ row.length = 8) (hR1 : R[i + 1]? = some row1) (hG1 : G[i + 1]? = some v1) (hnow : now.length = 8) (hre : v1 = true → nr = 8) :
    ∀ (j : Nat) (row : List Bool), (R.set (i + 1) (meetL row1 now v1))[j]? = some row → row = [] ∨ row.length = 8 := fun j row hj => by
  rw [List.getElem?_set] at hj
  split at hj
  · split at hj
    · have e := Option.some.inj hj
      rcases h _ _ hR1 with h1 | h1
      · subst h1
        rw [← e]
        cases v1
        · right; rw [meetL, if_neg (by simp)]; exact hnow
        · left; rfl
      · right
        rw [← e, meetL_len (fun _ => by omega)]
        exact hnow
    · cases hj
  · exact h j row hj
theorem fl_nil (J : List I) : ∀ i (j : Nat) (row : List Bool), (flAt J i).rows[j]? = some row → row = [] ∨ row.length = 8 := by
  intro i
  induction i with
  | zero =>
    intro j row h
    simp only [flAt] at h
    rw [List.getElem?_set] at h
    split at h
    · split at h
      · right; rw [← Option.some.inj h]; simp
      · cases h
    · rw [List.getElem?_replicate] at h
      split at h
      · left; exact (Option.some.inj h).symm
      · cases h
  | succ i ih =>
    have hput : ∀ (Q : Flow) (now : List Bool) (k : Nat), now.length = 8 → (∀ (j : Nat) (row : List Bool), Q.rows[j]? = some row → row = [] ∨ row.length = 8) → ∀ (j : Nat) (row : List Bool), (Q.put now k).rows[j]? = some row → row = [] ∨ row.length = 8 := by
      intro Q now k hn hQ j row h
      simp only [Flow.put] at h
      rw [List.getElem?_set] at h
      split at h
      · split at h
        · have e := Option.some.inj h
          have hk : Q.rows.getD k [] = [] ∨ (Q.rows.getD k []).length = 8 := by
            rw [List.getD_eq_getElem?_getD]
            cases h1 : Q.rows[k]? with
            | none => exact Or.inl rfl
            | some r => exact hQ k r h1
          rw [← e]
          rcases hk with hk | hk
          · rw [hk]
            unfold meetL
            split
            · left; rfl
            · right; exact hn
          · right
            rw [meetL_len (fun _ => by omega)]
            exact hn
        · cases h
      · exact hQ j row h
    intro j row h
    rw [flAt] at h
    split at h
    · rename_i x hx
      unfold flStep at h
      split at h
      · exact ih j row h
      · rename_i hg
        have hn : (nowOf ((flAt J i).rows.getD i []) (targetOf x)).length = 8 := by rw [nowOf_len]; exact (flAt_ok J i).yes i (by simpa using hg)
        split at h
        · exact ih j row h
        · split at h
          · exact hput _ _ _ hn (hput _ _ _ hn ih) j row h
          · exact hput _ _ _ hn ih j row h
    · exact ih j row h
theorem val_no {r : Int} {row : List Bool} (h : isReg r = false) : valR r row = false := by rw [valR, h]; rfl
theorem val_at {t : Nat} {row : List Bool} {v : Bool} (h : isReg t = true) (hv : row[t]? = some v) : valR t row = v := by rw [valR, h, Int.toNat_natCast, getD_of hv]; rfl
theorem reg_nat {r : Int} (h : isReg r = true) : ∃ t : Nat, r = t ∧ t < 8 := by
  have : 0 ≤ r ∧ r ≤ 7 := by simpa [isReg, inR] using h
  exact ⟨r.toNat, by omega, by omega⟩
theorem now_no {s : List Bool} {t : Int} (h : isReg t = false) : s = nowOf s t := by rw [nowOf, h]; rfl
theorem now_yes {s : List Bool} {t : Nat} (h : isReg t = true) : s.set t true = nowOf s t := by rw [nowOf, if_pos h, Int.toNat_natCast]
theorem specRegsD (d : Dat) (f0 f1 f2 f3 f4 : Int) (f5 : ByteArray) (w : World) (hd : d = .r [.i f0, .i f1, .i f2, .i f3, .i f4, .s f5]) : Calls Tryz.prog 31 #[.agg #[.int .i64 f0, .int .i64 f1, .int .i64 f2, .int .i64 f3, .int .i64 f4, .string f5]] w (Fresh .i64 3 (regsOf (insOf d)) w) := by
  subst hd
  exact specRegs ⟨f0, f1, f2, f3, f4, f5⟩ w
theorem regQ (z : Int) (v : Bool) (w : World) (h : isReg z = v) : Calls Tryz.prog 32 #[.int .i64 z] w fun e w' => e = .returned (.bool v) ∧ w' = w :=
  (specIsReg z w).mono fun _ _ h' => ⟨by rw [← h]; exact h'.1, h'.2.symm⟩
/-- The row that is copied. -/
theorem FlN.mk_ {W w0 w1 w4 : World} {nm : ByteArray} {A : Option Addr} {n c g1 g2 N : Nat} {Bd : Nat → Prop} {R : List (List Bool)} {G : List Bool} {bx : Nat} {cs : List Value} {An : Option Addr} {nn cn lo : Nat} {row : List Bool} {E : TypeId}
    (hq : FlQ W nm A n c g1 g2 Bd R G w0) (hxb : Box bx cs w0) (hbd : ∀ b, Bd b → b < N) (hN : bx = N) (hN2 : g2 < N) (hW : W.heap.size < N) (hb1 : Below w0.heap.size w0 w1) (hlo : lo = w0.heap.size)
    (hG : Grow E 1 lo w4 An (0 + nn) cn ([] ++ row.map Dat.b) (fun _ => False ∨ False)) (hT : Touch (fun b => ∃ a, (some (⟨w0.heap.size, 0, none⟩ : Addr)) = some a ∧ b = a.block) w1 w4) :
    FlN W nm A n c g1 g2 Bd R G bx cs An nn cn row w4 := by
  subst hlo hN
  have hl := hxb.1
  rw [Nat.zero_add, List.nil_append] at hG
  have hG' := hG.noB (fun b hb => hb.elim (fun h => h) (fun h => h))
  have hb : Below w0.heap.size w0 w4 := hb1.trans (hT.below (fun b ⟨a, e, hb⟩ => by obtain rfl := Option.some.inj e; subst hb; exact Nat.le_refl _) hb1.size)
  refine ⟨hq.below hb, hxb.below hb, ⟨fun h => by have := hbd _ h; omega, by omega, hW⟩, _, hG'.owns, fun b hB => ?_⟩
  have hge : w0.heap.size ≤ b := by
    rcases hB with ⟨a, e, rfl⟩ | hB
    · exact (hG'.blk8 a e).1
    · exact hB.elim
  exact ⟨fun h => by have := hbd _ h; omega, by omega, by omega, by omega⟩
set_option maxRecDepth 100000 in
set_option maxHeartbeats 32000000 in
theorem specFUd (nm : ByteArray) (L : List Dat) (A : Option Addr) (n c : Nat) (w : World) (h : Lies w (.l L) [.slice A n c]) (ht : ∀ x ∈ L, Has tyInstr x) (hn : n ≤ 1099511627776) :
    Calls Tryz.prog 8 #[.agg #[.string nm, .slice A n c]] w (GivesInt (specFU (insL L)) w) := by
  obtain ⟨i0, hi, hz0, hz1, hz2⟩ := info_parts infoBool
  obtain ⟨j0, hj, hy0, hy1, hy2⟩ := info_parts infoBools
  have H := Lib.hid h
  have HT := Lib.hid ht
  have HC := Lib.hid h.count
  have HJ : Hid ((insL L).length = n) := Lib.hid (by rw [insL_len]; exact h.count)
  clear h ht
  go_enter Tryz.func8, Tryz.ntmps8
  go_wp2_with (refine wpList_make_full _ rfl _ _ 56 rfl w.heap.size 57 j0 (.slice none 0 0) 1 Tryz.underlying56 hj hy0 hy1 _ _ ((n : Int) + 1) ((n : Int) + 1) (n + 1) rfl rfl (by omega) (by omega) (by rw [hy2]; omega) (by unfold maxLen; omega) (by simp) ?_)
  intro w1 hown1 hgrow1
  have hb1 := (Below.refl _ _).grown hgrow1 (Nat.le_refl _) (fun k h => by cases h)
  go_wp2_with (refine wpList_make_full _ rfl _ _ 57 rfl w1.heap.size 4 i0 (.bool false) 1 Tryz.underlying57 hi hz0 hz1 _ _ ((n : Int) + 1) ((n : Int) + 1) (n + 1) rfl rfl (by omega) (by omega) (by rw [hz2]; omega) (by unfold maxLen; omega) (Nat.le_refl _) ?_)
  intro w2 hown2 hgrow2
  have hb2 := (Below.refl w1.heap.size w1).grown hgrow2 (Nat.le_refl _) (fun k h => by cases h)
  go_wp2_with (refine wpList_make_full _ rfl _ _ 57 rfl w2.heap.size 4 i0 (.bool false) 1 Tryz.underlying57 hi hz0 hz1 _ _ 8 8 8 rfl rfl (by omega) (by omega) (by rw [hz2]; omega) (by unfold maxLen; omega) (Nat.le_refl _) ?_)
  intro w3 hown3 hgrow3
  have hb3 := (Below.refl w2.heap.size w2).grown hgrow3 (Nat.le_refl _) (fun k h => by cases h)
  obtain ⟨S1, S2, S3⟩ := FlQ.start hown1 hb1 hown2 hb2 hown3 hb3
  obtain ⟨_, _, _, _, _, -, -, t1, t2, -, -, -⟩ := S1.at_ (Nat.zero_le n)
  obtain ⟨_, _, _, _, _, -, -, -, -, -, t3, t4⟩ := S2.at_ (Nat.zero_le n)
  have Q0 : Hid (FlQ w nm A n c (w.heap.size + 1) w1.heap.size (fun b => b = w.heap.size + 1 ∨ b = w2.heap.size) (flAt (insL L) 0).rows (flAt (insL L) 0).got ((w3.setCell ⟨w.heap.size + 1, 0, none⟩ (.slice (some ⟨w2.heap.size, 0, none⟩) 8 8)).setCell ⟨w1.heap.size, 0, none⟩ (.bool true))) := Lib.hid (by rw [flAt, HJ.out]; exact S3)
  clear hown1 hgrow1 hb1 hown2 hgrow2 hb2 hown3 hgrow3 hb3 S1 S2 S3
  go_wp2_with fail
  clear t1 t2 t3 t4
  generalize w1.heap.size = g2 at *
  go_loopw [6] (fun iv wr => ∃ (i : Nat) (Bd : Nat → Prop), i ≤ n ∧ iv = .int .i64 i ∧ FlQ w nm A n c (w.heap.size + 1) g2 Bd (flAt (insL L) i).rows (flAt (insL L) i).got wr ∧ (∀ j, j < i → badF (insL L) j = false)) (fun iv _ => n - (intOf iv).toNat)
  case atStart => exact ⟨0, _, Nat.zero_le _, rfl, Q0.out, fun j hj => by omega⟩
  case round =>
    rename World => wo
    obtain ⟨i, Bd, hin, rfl, hQ, hno⟩ := hrel
    have HNO := Lib.hid hno
    obtain ⟨R, G, hfl⟩ : ∃ R G, flAt (insL L) i = ⟨R, G⟩ := ⟨_, _, rfl⟩
    rw [hfl] at hQ
    have Q := Lib.hid hQ
    have HF := Lib.hid hfl
    have HNIL : Hid (∀ (j : Nat) (row : List Bool), R[j]? = some row → row = [] ∨ row.length = 8) := Lib.hid (by have h1 := fl_nil (insL L) i; rw [hfl] at h1; exact h1)
    clear hno hQ hfl Q0
    obtain ⟨p0, p1⟩ := Q.out.two
    by_cases hlt : i < n
    · obtain ⟨b, off, d, xs, rfl, hbw, hzi, hlie, hlen, hcell⟩ := (H.out.below Q.out.low).elem (fun x hx => (HT.out x hx).width) hlt
      obtain ⟨f0, f1, f2, f3, f4, f5, hd, rfl, hf5⟩ := invInstr (HT.out d (List.mem_of_getElem? hzi)) hlie
      have r0 : wo.cell? ⟨b, off + i * 6, none⟩ = some (.int .i64 f0) := hcell 0 _ rfl
      have r1 : wo.cell? ⟨b, off + i * 6 + 1, none⟩ = some (.int .i64 f1) := hcell 1 _ rfl
      have r2 : wo.cell? ⟨b, off + i * 6 + 2, none⟩ = some (.int .i64 f2) := hcell 2 _ rfl
      have r3 : wo.cell? ⟨b, off + i * 6 + 3, none⟩ = some (.int .i64 f3) := hcell 3 _ rfl
      have r4 : wo.cell? ⟨b, off + i * 6 + 4, none⟩ = some (.int .i64 f4) := hcell 4 _ rfl
      have r5 : wo.cell? ⟨b, off + i * 6 + 5, none⟩ = some (.string f5) := hcell 5 _ rfl
      have HX := Lib.hid (insL_at hzi)
      have HD := Lib.hid hd
      have HI : Hid (insOf d = ⟨f0, f1, f2, f3, f4, f5⟩) := Lib.hid (by rw [hd]; rfl)
      have X1 := Lib.hid (Boxed.mk_ wo f0 f1 f2 f3 f4 f5 32)
      have Q1 := Lib.hid (Q.out.below X1.out.2)
      obtain ⟨row, Ar, nr, cr, v, hR, hrl, e1, e2, hG, e3, e4⟩ := Q1.out.at_ (j := i) (by omega)
      have HR := Lib.hid hR
      have HG := Lib.hid hG
      clear hzi hcell hlie hd hR hG hrl
      cases v with
      | false =>
        obtain ⟨hN1, hN2⟩ := fl_off HF.out HX.out HG.out
        have HN1 := Lib.hid hN1
        have HN2 := Lib.hid hN2
        clear hN1 hN2
        have HNN : Hid (∀ j, j < i + 1 → badF (insL L) j = false) := Lib.hid (fun j hj => by
          by_cases hji : j < i
          · exact HNO.out j hji
          · obtain rfl : j = i := by omega
            exact HN2.out)
        go_wp2_with fail
        go_roundw
        case rel => exact ⟨i + 1, Bd, by omega, by go_num, by rw [HN1.out]; exact Q1.out, HNN.out⟩
        case measure => (simp [intOf]; try omega)
      | true =>
        have HRL := Lib.hid (fl_len HJ.out HF.out HR.out HG.out)
        go_wp2_with fail
        refine (specRegsD d f0 f1 f2 f3 f4 f5 _ HD.out).mono ?_
        rintro e w4 ⟨A2, m2, c2, rfl, hO2, hb2⟩
        have HZL := Lib.hid hO2.1
        have hm2 : m2 ≤ 3 := by have h1 := hO2.1; have h2 := regsOf_len (insOf d); omega
        have HZ := Lib.hid hO2.rz
        have X2 := Lib.hid (X1.out.below hb2)
        have Q2 := Lib.hid (Q1.out.below hb2)
        clear hO2 hb2 e1 e2 e3 e4
        go_wp2_with fail
        go_loopw [9] (fun kv wq => ∃ k : Nat, k ≤ m2 ∧ kv = .int .i64 k ∧ (∀ (j : Nat) (r : Int), j < k → (regsOf (insOf d))[j]? = some r → valR r row = true) ∧ Below w4.heap.size w4 wq) (fun kv _ => m2 - (intOf kv).toNat)
        case atStart => exact ⟨0, Nat.zero_le _, rfl, fun j r hj => by omega, Below.refl _ _⟩
        case round =>
          obtain ⟨k, hk, rfl, hval, hbq⟩ := hrel
          have HVAL := Lib.hid hval
          have HBQ := Lib.hid hbq
          have Q3 := Lib.hid (Q2.out.below hbq)
          have X3 := Lib.hid (X2.out.below hbq)
          obtain ⟨row', Ar', nr', cr', v', hR', hrl, e1, e2, hG', e3, e4⟩ := Q3.out.at_ (j := i) (by omega)
          obtain rfl : row = row' := by have h1 := HR.out; rw [hR'] at h1; exact (Option.some.inj h1).symm
          have hnr : nr' = 8 := by rw [← bools_len hrl]; exact HRL.out
          subst hnr
          have HRLI := Lib.hid hrl
          clear hval hbq hR' hG' hrl
          by_cases hkm : k < m2
          · obtain ⟨b2, off2, z, rfl, hbw2, hzz, hcz⟩ := (HZ.out.below HBQ.out).at_ hkm
            have HZZ := Lib.hid hzz
            clear hzz
            obtain ⟨q, hq⟩ : ∃ q, isReg z = q := ⟨_, rfl⟩
            have HQ := Lib.hid hq
            clear hq
            cases q with
            | false =>
              have HE : Hid ((i : Int) = specFU (insL L)) := Lib.hid (firstP_at HNO.out (by rw [HJ.out]; exact hlt) (bad_yes HF.out HX.out HG.out HR.out HZZ.out (val_no HQ.out))).symm
              have HBE := Lib.hid Q3.out.low
              go_wp2_with fail
              go_quiet ((go_at_call 32; exact Calls.quiet_of_same (regQ z false _ HQ.out)))
              go_wp2_with fail
              go_ret
              exact GivesInt.ret HE.out (below_drewN HBE.out _)
            | true =>
              obtain ⟨t, rfl, ht8⟩ := reg_nat HQ.out
              obtain ⟨b3, off3, u, rfl, hbw3, hu, hcu⟩ := bools_at HRLI.out (j := t) ht8
              have HV := Lib.hid (val_at HQ.out hu)
              clear hu
              cases u with
              | false =>
                have HE : Hid ((i : Int) = specFU (insL L)) := Lib.hid (firstP_at HNO.out (by rw [HJ.out]; exact hlt) (bad_yes HF.out HX.out HG.out HR.out HZZ.out HV.out)).symm
                have HBE := Lib.hid Q3.out.low
                go_wp2_with fail
                go_quiet ((go_at_call 32; exact Calls.quiet_of_same (regQ t true _ HQ.out)))
                go_wp2_with fail
                go_ret
                exact GivesInt.ret HE.out (below_drewN HBE.out _)
              | true =>
                have HNV : Hid (∀ (j : Nat) (r : Int), j < k + 1 → (regsOf (insOf d))[j]? = some r → valR r row = true) := Lib.hid (fun j r hj hr => by
                  by_cases hjk : j < k
                  · exact HVAL.out j r hjk hr
                  · obtain rfl : j = k := by omega
                    rw [HZZ.out] at hr
                    obtain rfl := Option.some.inj hr
                    exact HV.out)
                go_wp2_with fail
                go_quiet ((go_at_call 32; exact Calls.quiet_of_same (regQ t true _ HQ.out)))
                go_wp2_with fail
                go_roundw
                case rel => exact ⟨k + 1, by omega, by go_num, HNV.out, below_drewN HBQ.out _⟩
                case measure => (simp [intOf]; try omega)
          · have hkm2 : k = m2 := by omega
            subst hkm2
            have HNB := Lib.hid (bad_no HF.out HX.out HG.out HR.out HZL.out HVAL.out)
            have HNN : Hid (∀ j, j < i + 1 → badF (insL L) j = false) := Lib.hid (fun j hj => by
              by_cases hji : j < i
              · exact HNO.out j hji
              · obtain rfl : j = i := by omega
                exact HNB.out)
            have B1 : Hid (∀ o, Below wr.heap.size wr (wr.alloc o)) := Lib.hid (fun o => (Below.refl _ _).alloc (Nat.le_refl _) o)
            have G0 := Lib.hid (FG.lit 4 wr wr (wr.heap.size + 1) (Below.refl _ _) (by omega)).grow
            have ec : ∀ o, (wr.alloc o).cell? ⟨w.heap.size + 1, i, none⟩ = some (.slice Ar' 8 cr') := fun o => ((B1.out o).cell (p := ⟨w.heap.size + 1, i, none⟩) (by have h1 := (Q3.out.bd _ Q3.out.hg1).2.2; exact h1)).trans e1
            go_wp2_with (at_builtin; refine wpList_append_dat _ rfl _ _ 57 rfl 1 (by omega) 4 i0 _ 1 Tryz.underlying57 hi hz0 hz1 rfl hz2 wr.heap.size (some ⟨wr.heap.size, 0, none⟩) 0 0 [] _ rfl G0.out Ar' 8 cr' (row.map Dat.b) (fun _ => False) rfl (Src.of_lies (HRLI.out.below (B1.out _)) (bools_w row) (bools_flat row)) (fun b h => h.elim) (fun a e h => h) (by unfold maxLen; omega) (by omega) (by simp) ?_; intro An cn w5 hG hT hA1; have N5 := Lib.hid (FlN.mk_ Q3.out X3.out.1 (N := wo.heap.size) (fun b hb => (Q.out.bd b hb).2.2) rfl Q.out.g2.2 (Nat.lt_trans Q.out.g2.1 Q.out.g2.2) (B1.out _) rfl hG hT); (obtain ⟨s0, s1, s2, s3, s4, s5⟩ := N5.out.six); clear hG hT hA1 ec)
            obtain ⟨t, htt⟩ : ∃ t, targetOf (insOf d) = t := ⟨_, rfl⟩
            have HTT := Lib.hid htt
            clear htt e1 e2 e3 e4
            refine (specTargetD d f0 f1 f2 f3 f4 f5 _ HD.out).mono ?_
            rintro e w6 ⟨rfl, hb6⟩
            rw [HTT.out]
            have N6 := Lib.hid (N5.out.below hb6)
            clear hb6 s0 s1 s2 s3 s4 s5
            obtain ⟨q, hq⟩ : ∃ q, isReg t = q := ⟨_, rfl⟩
            have HQT := Lib.hid hq
            have HNL : Hid ((nowOf row t).length = 8) := Lib.hid (by rw [nowOf_len]; exact HRL.out)
            clear hq
            go_wp2_with fail
            refine (specIsReg t _).mono ?_
            rintro e w' ⟨rfl, rfl⟩
            rw [HQT.out]
            cases q with
            | false =>
              have N := N6
              rw [now_no (s := row) HQT.out] at N
              by_cases h10 : f0 = 10
              case pos =>
                subst h10
                obtain ⟨s0, s1, s2, s3, s4, s5⟩ := N.out.six
                have HF1 := Lib.hid (fl_ret HF.out HX.out HG.out (by rw [HI.out]))
                go_wp2_with fail
                go_roundw
                case rel => exact ⟨i + 1, Bd, by omega, by go_num, by rw [HF1.out]; exact N.out.q, HNN.out⟩
                case measure => (simp [intOf]; try omega)
              case neg =>
                have h10b : (f0 == 10) = false := by simpa using h10
                have H10 := Lib.hid h10
                clear h10
                obtain ⟨s0, s1, s2, s3, s4, s5⟩ := N.out.six
                obtain ⟨rowa, Ara, nra, cra, va, hRa, hla, e1, e2, hGa, e3, e4⟩ := N.out.q.at_ (j := i + 1) (by omega)
                have HRa := Lib.hid hRa
                have HGa := Lib.hid hGa
                have NDa := Lib.hid (N.out.below (Below.refl _ _).drew)
                have HLa := Lib.hid (hla.below (Below.refl _ _).drew)
                have hrea : va = true → nra = 8 := fun hv => by
                  subst hv
                  rw [← bools_len hla]
                  exact fl_len HJ.out HF.out HRa.out HGa.out
                have hnla : nra ≤ 1099511627776 := by
                  rw [← bools_len hla]
                  rcases HNIL.out (i + 1) rowa HRa.out with hq | hq
                  · rw [hq]; simp
                  · rw [hq]; omega
                have HREa := Lib.hid hrea
                clear hRa hGa hla hrea
                go_wp2_with fail
                have hs1 : IntKind.i64.wrap ((i : Int) + 1) = (i : Int) + 1 := IntWalk.i64_in _ (by omega)
                have hs2 : (0 : Int) ≤ (i : Int) + 1 := by omega
                have hs3 : (i : Int) + 1 < (n : Int) + 1 := by omega
                have hs4 : ((i : Int) + 1).toNat = i + 1 := by omega
                go_region_law (first
                  | (go_simp; go_at_call 34; (with_reducible refine (specMeet rowa (nowOf row t) Ara An nra 8 cra cn va _ HLa.out NDa.out.lies HREa.out (by omega) hnla).mono ?_); rintro e w8 ⟨Ama, nma, cma, rfl, hO8, hb8⟩; have N8a := Lib.hid (NDa.out.row (j := i + 1) hb8 (by omega) hO8); (obtain ⟨_, _, _, _, _, -, -, k1, k2, -, -, -⟩ := (NDa.out.below hb8).q.at_ (j := i + 1) (by omega)); clear hO8 hb8))
                all_goals (
                  clear hs1 hs2 hs3 hs4
                  obtain ⟨Bd2, hN9⟩ := N8a.out
                  have N9 := Lib.hid hN9
                  obtain ⟨_, _, _, _, _, -, -, -, -, -, k3, k4⟩ := N9.out.q.at_ (j := i + 1) (by omega)
                  have N10 := Lib.hid (N9.out.mark (j := i + 1) (by omega))
                  clear hN9 e1 e2 e3 e4 s0 s1 s2 s3 s4 s5
                  obtain ⟨s0, s1, s2, s3, s4, s5⟩ := N10.out.six
                  by_cases h9 : f0 = 9
                  case neg =>
                    have HF1 := Lib.hid (fl_go HF.out HX.out HG.out HR.out (by rw [HI.out]; exact H10.out) (by rw [HI.out]; exact h9) HTT.out HRa.out HGa.out)
                    have h9b : (f0 == 9) = false := by simpa using h9
                    clear h9
                    go_wp2_with fail
                    go_roundw
                    case rel => exact ⟨i + 1, Bd2, by omega, by go_num, by rw [HF1.out]; exact N10.out.q, HNN.out⟩
                    case measure => (simp [intOf]; try omega)
                  case pos =>
                    subst h9
                    obtain ⟨q, hq⟩ : ∃ q, inR f2 0 ((n : Int) - i - 1) = q := ⟨_, rfl⟩
                    have HQK := Lib.hid hq
                    have HQB : Hid (inR f2 0 ((n : Int) - ((i + 1 : Nat) : Int)) = q) := Lib.hid (by rw [show (n : Int) - ((i + 1 : Nat) : Int) = (n : Int) - i - 1 by omega]; exact hq)
                    clear hq
                    cases q with
                    | true =>
                      obtain ⟨hq0, hq1⟩ := behind_b HQB.out
                      obtain ⟨f, rfl⟩ : ∃ f : Nat, f2 = f := ⟨f2.toNat, by omega⟩
                      have hfn : i + 1 + f ≤ n := by omega
                      have HBK : Hid (behind (i + 1) (insOf d).b n = i + 1 + f) := Lib.hid (by rw [HI.out]; have h1 := behind_in HQB.out; simp only []; omega)
                      go_wp2_with fail
                      refine (specInR f 0 ((n : Int) - i - 1) _).mono ?_
                      rintro e w' ⟨rfl, rfl⟩
                      rw [HQK.out]
                      have HNIL2 := Lib.hid (nil_put HNIL.out HRa.out HGa.out HNL.out HREa.out)
                      obtain ⟨rowb, Arb, nrb, crb, vb, hRb, hlb, e1, e2, hGb, e3, e4⟩ := N10.out.q.at_ (j := i + 1 + f) (by omega)
                      have HRb := Lib.hid hRb
                      have HGb := Lib.hid hGb
                      have NDb := Lib.hid (N10.out.below (Below.refl _ _).drew)
                      have HLb := Lib.hid (hlb.below (Below.refl _ _).drew)
                      have hreb : vb = true → nrb = 8 := fun hv => by
                        subst hv
                        rw [← bools_len hlb]
                        exact fl_len2 HJ.out HF.out HNL.out HRa.out HGa.out HRb.out HGb.out
                      have hnlb : nrb ≤ 1099511627776 := by
                        rw [← bools_len hlb]
                        rcases HNIL2.out (i + 1 + f) rowb HRb.out with hq | hq
                        · rw [hq]; simp
                        · rw [hq]; omega
                      have HREb := Lib.hid hreb
                      clear hRb hGb hlb hreb
                      go_wp2_with fail
                      have hs2 : (0 : Int) ≤ (i : Int) + 1 + f := by omega
                      have hs3 : (i : Int) + 1 + f < (n : Int) + 1 := by omega
                      have hs4 : ((i : Int) + 1 + f).toNat = i + 1 + f := by omega
                      go_region_law (first
                        | (go_simp; go_at_call 34; (with_reducible refine (specMeet rowb (nowOf row t) Arb An nrb 8 crb cn vb _ HLb.out NDb.out.lies HREb.out (by omega) hnlb).mono ?_); rintro e w11 ⟨Amb, nmb, cmb, rfl, hO8, hb8⟩; have N8b := Lib.hid (NDb.out.row (j := i + 1 + f) hb8 (by omega) hO8); (obtain ⟨_, _, _, _, _, -, -, k1, k2, -, -, -⟩ := (NDb.out.below hb8).q.at_ (j := i + 1 + f) (by omega)); clear hO8 hb8))
                      all_goals (
                        clear hs2 hs3 hs4
                        obtain ⟨Bd3, hN12⟩ := N8b.out
                        have N12 := Lib.hid hN12
                        obtain ⟨_, _, _, _, _, -, -, -, -, -, k5, k6⟩ := N12.out.q.at_ (j := i + 1 + f) (by omega)
                        have N13 := Lib.hid (N12.out.mark (j := i + 1 + f) (by omega))
                        have HF1 := Lib.hid (fl_skip HF.out HX.out HJ.out HG.out HR.out (by rw [HI.out]) HTT.out HRa.out HGa.out HBK.out HRb.out HGb.out)
                        clear hN12
                        go_wp2_with fail
                        go_roundw
                        case rel => exact ⟨i + 1, Bd3, by omega, by go_num, by rw [HF1.out]; exact N13.out.q, HNN.out⟩
                        case measure => (simp [intOf]; try omega))
                    | false =>
                      have HBK : Hid (behind (i + 1) (insOf d).b n = n) := Lib.hid (by rw [HI.out]; have h1 := behind_out HQB.out; simp only []; omega)
                      go_wp2_with fail
                      refine (specInR f2 0 ((n : Int) - i - 1) _).mono ?_
                      rintro e w' ⟨rfl, rfl⟩
                      rw [HQK.out]
                      have HNIL2 := Lib.hid (nil_put HNIL.out HRa.out HGa.out HNL.out HREa.out)
                      obtain ⟨rowb, Arb, nrb, crb, vb, hRb, hlb, e1, e2, hGb, e3, e4⟩ := N10.out.q.at_ (j := n) (by omega)
                      have HRb := Lib.hid hRb
                      have HGb := Lib.hid hGb
                      have NDb := Lib.hid (N10.out.below (Below.refl _ _).drew)
                      have HLb := Lib.hid (hlb.below (Below.refl _ _).drew)
                      have hreb : vb = true → nrb = 8 := fun hv => by
                        subst hv
                        rw [← bools_len hlb]
                        exact fl_len2 HJ.out HF.out HNL.out HRa.out HGa.out HRb.out HGb.out
                      have hnlb : nrb ≤ 1099511627776 := by
                        rw [← bools_len hlb]
                        rcases HNIL2.out (n) rowb HRb.out with hq | hq
                        · rw [hq]; simp
                        · rw [hq]; omega
                      have HREb := Lib.hid hreb
                      clear hRb hGb hlb hreb
                      go_wp2_with fail
                      have hs2 : (0 : Int) ≤ (n : Int) := by omega
                      have hs3 : (n : Int) < (n : Int) + 1 := by omega
                      have hs4 : n < n + 1 := by omega
                      go_region_law (first
                        | (go_simp; go_at_call 34; (with_reducible refine (specMeet rowb (nowOf row t) Arb An nrb 8 crb cn vb _ HLb.out NDb.out.lies HREb.out (by omega) hnlb).mono ?_); rintro e w11 ⟨Amb, nmb, cmb, rfl, hO8, hb8⟩; have N8b := Lib.hid (NDb.out.row (j := n) hb8 (by omega) hO8); (obtain ⟨_, _, _, _, _, -, -, k1, k2, -, -, -⟩ := (NDb.out.below hb8).q.at_ (j := n) (by omega)); clear hO8 hb8))
                      all_goals (
                        clear hs2 hs3 hs4
                        obtain ⟨Bd3, hN12⟩ := N8b.out
                        have N12 := Lib.hid hN12
                        obtain ⟨_, _, _, _, _, -, -, -, -, -, k5, k6⟩ := N12.out.q.at_ (j := n) (by omega)
                        have N13 := Lib.hid (N12.out.mark (j := n) (by omega))
                        have HF1 := Lib.hid (fl_skip HF.out HX.out HJ.out HG.out HR.out (by rw [HI.out]) HTT.out HRa.out HGa.out HBK.out HRb.out HGb.out)
                        clear hN12
                        go_wp2_with fail
                        go_roundw
                        case rel => exact ⟨i + 1, Bd3, by omega, by go_num, by rw [HF1.out]; exact N13.out.q, HNN.out⟩
                        case measure => (simp [intOf]; try omega)))
            | true =>
              obtain ⟨tt, rfl, ht8⟩ := reg_nat HQT.out
              obtain ⟨s0, s1, s2, s3, s4, s5⟩ := N6.out.six
              go_wp2_with fail
              refine (specTargetD d f0 f1 f2 f3 f4 f5 _ HD.out).mono ?_
              rintro e w7 ⟨rfl, hb7⟩
              rw [HTT.out]
              have N7 := Lib.hid (N6.out.below hb7)
              obtain ⟨gn, rfl⟩ := N7.out.head (by omega)
              obtain ⟨⟨u, k1⟩, k2⟩ := N7.out.slot ht8
              have N := Lib.hid (N7.out.write ht8)
              rw [now_yes (s := row) HQT.out] at N
              clear hb7 s0 s1 s2 s3 s4 s5
              by_cases h10 : f0 = 10
              case pos =>
                subst h10
                obtain ⟨s0, s1, s2, s3, s4, s5⟩ := N.out.six
                have HF1 := Lib.hid (fl_ret HF.out HX.out HG.out (by rw [HI.out]))
                go_wp2_with fail
                go_roundw
                case rel => exact ⟨i + 1, Bd, by omega, by go_num, by rw [HF1.out]; exact N.out.q, HNN.out⟩
                case measure => (simp [intOf]; try omega)
              case neg =>
                have h10b : (f0 == 10) = false := by simpa using h10
                have H10 := Lib.hid h10
                clear h10
                obtain ⟨s0, s1, s2, s3, s4, s5⟩ := N.out.six
                obtain ⟨rowa, Ara, nra, cra, va, hRa, hla, e1, e2, hGa, e3, e4⟩ := N.out.q.at_ (j := i + 1) (by omega)
                have HRa := Lib.hid hRa
                have HGa := Lib.hid hGa
                have NDa := Lib.hid (N.out.below (Below.refl _ _).drew)
                have HLa := Lib.hid (hla.below (Below.refl _ _).drew)
                have hrea : va = true → nra = 8 := fun hv => by
                  subst hv
                  rw [← bools_len hla]
                  exact fl_len HJ.out HF.out HRa.out HGa.out
                have hnla : nra ≤ 1099511627776 := by
                  rw [← bools_len hla]
                  rcases HNIL.out (i + 1) rowa HRa.out with hq | hq
                  · rw [hq]; simp
                  · rw [hq]; omega
                have HREa := Lib.hid hrea
                clear hRa hGa hla hrea
                go_wp2_with fail
                have hs1 : IntKind.i64.wrap ((i : Int) + 1) = (i : Int) + 1 := IntWalk.i64_in _ (by omega)
                have hs2 : (0 : Int) ≤ (i : Int) + 1 := by omega
                have hs3 : (i : Int) + 1 < (n : Int) + 1 := by omega
                have hs4 : ((i : Int) + 1).toNat = i + 1 := by omega
                go_region_law (first
                  | (go_simp; go_at_call 34; (with_reducible refine (specMeet rowa (nowOf row tt) Ara (some ⟨gn, 0, none⟩) nra 8 cra cn va _ HLa.out NDa.out.lies HREa.out (by omega) hnla).mono ?_); rintro e w8 ⟨Ama, nma, cma, rfl, hO8, hb8⟩; have N8a := Lib.hid (NDa.out.row (j := i + 1) hb8 (by omega) hO8); (obtain ⟨_, _, _, _, _, -, -, k1, k2, -, -, -⟩ := (NDa.out.below hb8).q.at_ (j := i + 1) (by omega)); clear hO8 hb8))
                all_goals (
                  clear hs1 hs2 hs3 hs4
                  obtain ⟨Bd2, hN9⟩ := N8a.out
                  have N9 := Lib.hid hN9
                  obtain ⟨_, _, _, _, _, -, -, -, -, -, k3, k4⟩ := N9.out.q.at_ (j := i + 1) (by omega)
                  have N10 := Lib.hid (N9.out.mark (j := i + 1) (by omega))
                  clear hN9 e1 e2 e3 e4 s0 s1 s2 s3 s4 s5
                  obtain ⟨s0, s1, s2, s3, s4, s5⟩ := N10.out.six
                  by_cases h9 : f0 = 9
                  case neg =>
                    have HF1 := Lib.hid (fl_go HF.out HX.out HG.out HR.out (by rw [HI.out]; exact H10.out) (by rw [HI.out]; exact h9) HTT.out HRa.out HGa.out)
                    have h9b : (f0 == 9) = false := by simpa using h9
                    clear h9
                    go_wp2_with fail
                    go_roundw
                    case rel => exact ⟨i + 1, Bd2, by omega, by go_num, by rw [HF1.out]; exact N10.out.q, HNN.out⟩
                    case measure => (simp [intOf]; try omega)
                  case pos =>
                    subst h9
                    obtain ⟨q, hq⟩ : ∃ q, inR f2 0 ((n : Int) - i - 1) = q := ⟨_, rfl⟩
                    have HQK := Lib.hid hq
                    have HQB : Hid (inR f2 0 ((n : Int) - ((i + 1 : Nat) : Int)) = q) := Lib.hid (by rw [show (n : Int) - ((i + 1 : Nat) : Int) = (n : Int) - i - 1 by omega]; exact hq)
                    clear hq
                    cases q with
                    | true =>
                      obtain ⟨hq0, hq1⟩ := behind_b HQB.out
                      obtain ⟨f, rfl⟩ : ∃ f : Nat, f2 = f := ⟨f2.toNat, by omega⟩
                      have hfn : i + 1 + f ≤ n := by omega
                      have HBK : Hid (behind (i + 1) (insOf d).b n = i + 1 + f) := Lib.hid (by rw [HI.out]; have h1 := behind_in HQB.out; simp only []; omega)
                      go_wp2_with fail
                      refine (specInR f 0 ((n : Int) - i - 1) _).mono ?_
                      rintro e w' ⟨rfl, rfl⟩
                      rw [HQK.out]
                      have HNIL2 := Lib.hid (nil_put HNIL.out HRa.out HGa.out HNL.out HREa.out)
                      obtain ⟨rowb, Arb, nrb, crb, vb, hRb, hlb, e1, e2, hGb, e3, e4⟩ := N10.out.q.at_ (j := i + 1 + f) (by omega)
                      have HRb := Lib.hid hRb
                      have HGb := Lib.hid hGb
                      have NDb := Lib.hid (N10.out.below (Below.refl _ _).drew)
                      have HLb := Lib.hid (hlb.below (Below.refl _ _).drew)
                      have hreb : vb = true → nrb = 8 := fun hv => by
                        subst hv
                        rw [← bools_len hlb]
                        exact fl_len2 HJ.out HF.out HNL.out HRa.out HGa.out HRb.out HGb.out
                      have hnlb : nrb ≤ 1099511627776 := by
                        rw [← bools_len hlb]
                        rcases HNIL2.out (i + 1 + f) rowb HRb.out with hq | hq
                        · rw [hq]; simp
                        · rw [hq]; omega
                      have HREb := Lib.hid hreb
                      clear hRb hGb hlb hreb
                      go_wp2_with fail
                      have hs2 : (0 : Int) ≤ (i : Int) + 1 + f := by omega
                      have hs3 : (i : Int) + 1 + f < (n : Int) + 1 := by omega
                      have hs4 : ((i : Int) + 1 + f).toNat = i + 1 + f := by omega
                      go_region_law (first
                        | (go_simp; go_at_call 34; (with_reducible refine (specMeet rowb (nowOf row tt) Arb (some ⟨gn, 0, none⟩) nrb 8 crb cn vb _ HLb.out NDb.out.lies HREb.out (by omega) hnlb).mono ?_); rintro e w11 ⟨Amb, nmb, cmb, rfl, hO8, hb8⟩; have N8b := Lib.hid (NDb.out.row (j := i + 1 + f) hb8 (by omega) hO8); (obtain ⟨_, _, _, _, _, -, -, k1, k2, -, -, -⟩ := (NDb.out.below hb8).q.at_ (j := i + 1 + f) (by omega)); clear hO8 hb8))
                      all_goals (
                        clear hs2 hs3 hs4
                        obtain ⟨Bd3, hN12⟩ := N8b.out
                        have N12 := Lib.hid hN12
                        obtain ⟨_, _, _, _, _, -, -, -, -, -, k5, k6⟩ := N12.out.q.at_ (j := i + 1 + f) (by omega)
                        have N13 := Lib.hid (N12.out.mark (j := i + 1 + f) (by omega))
                        have HF1 := Lib.hid (fl_skip HF.out HX.out HJ.out HG.out HR.out (by rw [HI.out]) HTT.out HRa.out HGa.out HBK.out HRb.out HGb.out)
                        clear hN12
                        go_wp2_with fail
                        go_roundw
                        case rel => exact ⟨i + 1, Bd3, by omega, by go_num, by rw [HF1.out]; exact N13.out.q, HNN.out⟩
                        case measure => (simp [intOf]; try omega))
                    | false =>
                      have HBK : Hid (behind (i + 1) (insOf d).b n = n) := Lib.hid (by rw [HI.out]; have h1 := behind_out HQB.out; simp only []; omega)
                      go_wp2_with fail
                      refine (specInR f2 0 ((n : Int) - i - 1) _).mono ?_
                      rintro e w' ⟨rfl, rfl⟩
                      rw [HQK.out]
                      have HNIL2 := Lib.hid (nil_put HNIL.out HRa.out HGa.out HNL.out HREa.out)
                      obtain ⟨rowb, Arb, nrb, crb, vb, hRb, hlb, e1, e2, hGb, e3, e4⟩ := N10.out.q.at_ (j := n) (by omega)
                      have HRb := Lib.hid hRb
                      have HGb := Lib.hid hGb
                      have NDb := Lib.hid (N10.out.below (Below.refl _ _).drew)
                      have HLb := Lib.hid (hlb.below (Below.refl _ _).drew)
                      have hreb : vb = true → nrb = 8 := fun hv => by
                        subst hv
                        rw [← bools_len hlb]
                        exact fl_len2 HJ.out HF.out HNL.out HRa.out HGa.out HRb.out HGb.out
                      have hnlb : nrb ≤ 1099511627776 := by
                        rw [← bools_len hlb]
                        rcases HNIL2.out (n) rowb HRb.out with hq | hq
                        · rw [hq]; simp
                        · rw [hq]; omega
                      have HREb := Lib.hid hreb
                      clear hRb hGb hlb hreb
                      go_wp2_with fail
                      have hs2 : (0 : Int) ≤ (n : Int) := by omega
                      have hs3 : (n : Int) < (n : Int) + 1 := by omega
                      have hs4 : n < n + 1 := by omega
                      go_region_law (first
                        | (go_simp; go_at_call 34; (with_reducible refine (specMeet rowb (nowOf row tt) Arb (some ⟨gn, 0, none⟩) nrb 8 crb cn vb _ HLb.out NDb.out.lies HREb.out (by omega) hnlb).mono ?_); rintro e w11 ⟨Amb, nmb, cmb, rfl, hO8, hb8⟩; have N8b := Lib.hid (NDb.out.row (j := n) hb8 (by omega) hO8); (obtain ⟨_, _, _, _, _, -, -, k1, k2, -, -, -⟩ := (NDb.out.below hb8).q.at_ (j := n) (by omega)); clear hO8 hb8))
                      all_goals (
                        clear hs2 hs3 hs4
                        obtain ⟨Bd3, hN12⟩ := N8b.out
                        have N12 := Lib.hid hN12
                        obtain ⟨_, _, _, _, _, -, -, -, -, -, k5, k6⟩ := N12.out.q.at_ (j := n) (by omega)
                        have N13 := Lib.hid (N12.out.mark (j := n) (by omega))
                        have HF1 := Lib.hid (fl_skip HF.out HX.out HJ.out HG.out HR.out (by rw [HI.out]) HTT.out HRa.out HGa.out HBK.out HRb.out HGb.out)
                        clear hN12
                        go_wp2_with fail
                        go_roundw
                        case rel => exact ⟨i + 1, Bd3, by omega, by go_num, by rw [HF1.out]; exact N13.out.q, HNN.out⟩
                        case measure => (simp [intOf]; try omega)))

    · have hE : i = n := by omega
      subst hE
      have HE : Hid (-1 = specFU (insL L)) := Lib.hid (firstP_none (p := badF (insL L)) (fun j hj => HNO.out j (by rw [← HJ.out]; exact hj))).symm
      have HBE := Lib.hid Q.out.low
      go_wp2
      go_ret
      exact GivesInt.ret HE.out HBE.out
end Go.Proofs.YtgibhbplgiejpaaGreat
