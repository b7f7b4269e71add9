/- The laws' marks of rows of strings; of a script by value. -/
import Derived.Test.YtgibhbplgiejpaaMarkA
import Derived.Test.YtgibhbplgiejpaaMade
namespace Go.Proofs.Ytgibhbplgiejpaa
open Go.RowKit
set_option linter.unusedVariables false
set_option linter.unusedSimpArgs false
set_option maxHeartbeats 2000000 in
theorem markScript (f0 : ByteArray) (L : List Dat) (A : Option Addr) (n c : Nat) (z : Int) (lo hi : Nat) (w : World) (h : Owns w (.l L) [.slice A n c] (rng lo hi)) (ht : ∀ x ∈ L, Has tyMethod x) (h0 : 0 < z) (h1 : z + cntAll L ≤ 1099511627776) (hn : n ≤ 1099511627776) :
    Calls Try.prog 23 #[.agg #[.string f0, .slice A n c], .int .i64 z] w (MarkedD L A n c z (rng lo hi) w) := by
  have B0 : Hid (Below w.heap.size w (w.alloc (.cells #[.string f0, .slice A n c] 44))) := Lib.hid (by go_grown)
  have HO := Lib.hid (h.below B0.out)
  have H1 := Lib.hid h1
  clear h h1
  go_enter Try.func23, Try.ntmps23
  go_wp2_with fail
  refine (markMethodS L A n c z (rng lo hi) _ HO.out ht h0 H1.out hn).mono ?_
  rintro e w1 ⟨rfl, hO, hT⟩
  have HO1 := Lib.hid hO
  have HT1 := Lib.hid ((Touch.of_below B0.out).trans hT)
  clear hO hT
  go_wp2_with fail
  go_ret
  exact ⟨rfl, HO1.out, HT1.out⟩
/-! ### Rows of strings -/
theorem strs_w (L : List ByteArray) : ∀ x ∈ L.map Dat.s, x.width = 1 := fun x hx => by
  obtain ⟨y, -, rfl⟩ := List.mem_map.1 hx
  rfl
theorem str_head {w : World} {L : List ByteArray} {A : Option Addr} {n c : Nat} {B : Nat → Prop} (h : Owns w (.l (L.map Dat.s)) [.slice A n c] B) (hn : 0 < n) : ∃ g, A = some ⟨g, 0, none⟩ ∧ B g := by
  obtain ⟨g, E, cur, d, xs, Bi, Br, e, hg, -⟩ := Owns.focus (k := 1) h (strs_w L) hn
  exact ⟨g, e, hg⟩
theorem str_slot {w : World} {L : List ByteArray} {g n c j : Nat} {B : Nat → Prop} (h : Owns w (.l (L.map Dat.s)) [.slice (some ⟨g, 0, none⟩) n c] B) (hj : j < n) :
    ∃ v, L[j]? = some v ∧ w.cell? ⟨g, j, none⟩ = some (.string v) ∧ w.frozen? ⟨g, j, none⟩ = false := by
  obtain ⟨b, off, v, e, hb, hv, hc⟩ := strs_at h.lies hj
  injection e with e
  injection e with e1 e2
  subst e1 e2
  obtain ⟨g', E, cur, d, xs, Bi, Br, e, -, -, -, -, h3, -, -, h6, h7, -⟩ := Owns.focus (k := 1) h (strs_w L) hj
  obtain rfl : g = g' := by injection e with e; injection e
  exact ⟨v, hv, by simpa using hc, h7 j⟩
theorem str_set {w : World} {L : List ByteArray} {g n c j : Nat} {B : Nat → Prop} (h : Owns w (.l (L.map Dat.s)) [.slice (some ⟨g, 0, none⟩) n c] B) (hj : j < n) (v : ByteArray) :
    Owns (w.setCell ⟨g, j, none⟩ (.string v)) (.l ((L.set j v).map Dat.s)) [.slice (some ⟨g, 0, none⟩) n c] B := by
  have hp := Owns.put (S := fun _ => False) (Bi' := fun _ => False) (d' := .s v) (xs' := [.string v]) (i := j) (k := 1) h (strs_w L) hj (Touch.refl _ w) (fun b hb => hb.elim) rfl (by rw [Owns]) (fun b hb => hb.elim)
  rw [Nat.mul_one] at hp
  rw [List.map_set]
  exact hp.mono (fun b hb => hb.elim (fun h => h) (fun h => h.elim))
theorem strs_len {w : World} {L : List ByteArray} {A : Option Addr} {n c : Nat} (h : Lies w (.l (L.map Dat.s)) [.slice A n c]) : L.length = n := by
  have h1 := h.count
  rw [List.length_map] at h1
  exact h1
def marksS (z : Int) (n : Nat) : List ByteArray := (List.range n).map fun (j : Nat) => mtext (z + (j : Int)).toNat
theorem marksS_len (z : Int) (n : Nat) : (marksS z n).length = n := by simp [marksS]
theorem marksS_at {z : Int} {n j : Nat} (h : j < n) : (marksS z n)[j]? = some (mtext (z + (j : Int)).toNat) := by simp [marksS, h]
def MarkedT (A : Option Addr) (n c : Nat) (z : Int) (B : Nat → Prop) (w : World) (e : Ending) (w' : World) : Prop := e = .returned (.int .i64 (z + (n : Int))) ∧ Owns w' (.l ((marksS z n).map Dat.s)) [.slice A n c] B ∧ Touch B w w'
structure MkT (W : World) (A : Option Addr) (n c : Nat) (z : Int) (B : Nat → Prop) (i : Nat) (w : World) : Prop where
  own : ∃ U : List ByteArray, Owns w (.l (U.map Dat.s)) [.slice A n c] B ∧ ∀ j, j < i → U[j]? = some (mtext (z + (j : Int)).toNat)
  touch : Touch B W w
theorem MkT.below {W w w' : World} {A : Option Addr} {n c : Nat} {z : Int} {B : Nat → Prop} {i : Nat} (h : MkT W A n c z B i w) (hb : Below w.heap.size w w') : MkT W A n c z B i w' := by
  obtain ⟨U, h1, h2⟩ := h.own
  exact ⟨⟨U, h1.below hb, h2⟩, h.touch.trans (Touch.of_below hb)⟩
theorem MkT.head {W w : World} {A : Option Addr} {n c : Nat} {z : Int} {B : Nat → Prop} {i : Nat} (h : MkT W A n c z B i w) (hi : i < n) : ∃ g, A = some ⟨g, 0, none⟩ := by
  obtain ⟨U, h1, h2⟩ := h.own
  obtain ⟨g, e, -⟩ := str_head h1 (by omega)
  exact ⟨g, e⟩
theorem MkT.slot {W w : World} {g n c : Nat} {z : Int} {B : Nat → Prop} {i : Nat} (h : MkT W (some ⟨g, 0, none⟩) n c z B i w) (hi : i < n) : (∃ u, w.cell? ⟨g, i, none⟩ = some u) ∧ w.frozen? ⟨g, i, none⟩ = false := by
  obtain ⟨U, h1, h2⟩ := h.own
  obtain ⟨v, -, h3, h4⟩ := str_slot h1 hi
  exact ⟨⟨_, h3⟩, h4⟩
theorem MkT.next {W w : World} {g n c : Nat} {z : Int} {B : Nat → Prop} {i : Nat} (h : MkT W (some ⟨g, 0, none⟩) n c z B i w) (hi : i < n) : MkT W (some ⟨g, 0, none⟩) n c z B (i + 1) (w.setCell ⟨g, i, none⟩ (.string (mtext (z + (i : Int)).toNat))) := by
  obtain ⟨U, h1, h2⟩ := h.own
  obtain ⟨g', e, hg⟩ := str_head h1 (by omega)
  obtain rfl : g = g' := by injection e with e; injection e
  have hl := strs_len h1.lies
  refine ⟨⟨_, str_set h1 hi _, fun j hj => ?_⟩, h.touch.setCell (p := ⟨g, i, none⟩) hg _⟩
  rw [List.getElem?_set]
  by_cases e : i = j
  · subst e; rw [if_pos rfl, if_pos (by omega)]
  · rw [if_neg e]; exact h2 j (by omega)
theorem MkT.ret {W w : World} {A : Option Addr} {n c : Nat} {z : Int} {B : Nat → Prop} (h : MkT W A n c z B n w) : MarkedT A n c z B W (.returned (.int .i64 (z + (n : Int)))) w := by
  obtain ⟨U, h1, h2⟩ := h.own
  have hl := strs_len h1.lies
  have e : U = marksS z n := by
    apply List.ext_getElem?
    intro j
    by_cases hj : j < n
    · rw [h2 j hj, marksS_at hj]
    · rw [List.getElem?_eq_none (by omega), List.getElem?_eq_none (by rw [marksS_len]; omega)]
  subst e
  exact ⟨rfl, h1, h.touch⟩
set_option maxRecDepth 100000 in
set_option maxHeartbeats 4000000 in
theorem markStrS (L : List ByteArray) (A : Option Addr) (n c : Nat) (z : Int) (B : Nat → Prop) (w : World) (h : Owns w (.l (L.map Dat.s)) [.slice A n c] B) (h0 : 0 < z) (h1 : z ≤ 1048576) (hn : n ≤ 1099510000000) :
    Calls Try.prog 24 #[.slice A n c, .int .i64 z] w (MarkedT A n c z B w) := by
  have M0 : Hid (MkT w A n c z B 0 w) := Lib.hid ⟨⟨L, h, fun j hj => by omega⟩, Touch.refl _ _⟩
  clear h
  go_enter Try.func24, Try.ntmps24
  go_wp2
  go_loopw [1, 5] (fun zv iv wr => ∃ i : Nat, i ≤ n ∧ iv = .int .i64 i ∧ zv = .int .i64 (z + (i : Int)) ∧ MkT w A n c z B i wr) (fun _ iv _ => n - (intOf iv).toNat)
  case atStart => exact ⟨0, Nat.zero_le _, rfl, by simp, M0.out⟩
  case round =>
    obtain ⟨i, hin, rfl, rfl, hM⟩ := hrel
    have M := Lib.hid hM
    clear hM M0
    by_cases hlt : i < n
    · obtain ⟨g, rfl⟩ := M.out.head hlt
      go_wp2_with fail
      refine (markTextZ (z + (i : Int)) _ (by omega) (by omega)).mono ?_
      rintro e w1 ⟨rfl, hb⟩
      have M1 := Lib.hid (M.out.below hb)
      obtain ⟨⟨u, k1⟩, k2⟩ := M1.out.slot hlt
      have M2 := Lib.hid (M1.out.next hlt)
      clear hb
      go_wp2_with fail
      go_roundw
      case rel => exact ⟨i + 1, by omega, by go_num, by go_num, M2.out⟩
      case measure => (simp [intOf]; try omega)
    · have hE : i = n := by omega
      subst hE
      go_wp2_with fail
      go_ret
      exact M.out.ret
theorem cell_low8 {w w' : World} {B : Nat} (hb : Below B w w') {b o : Nat} {v : Value} (h : b < B) (hc : w.cell? ⟨b, o, none⟩ = some v) : w'.cell? ⟨b, o, none⟩ = some v := (hb.cell (p := ⟨b, o, none⟩) h).trans hc
set_option maxRecDepth 100000 in
set_option maxHeartbeats 4000000 in
theorem heldStrS (A : Option Addr) (n c : Nat) (z : Int) (w : World) (h : Lies w (.l ((marksS z n).map Dat.s)) [.slice A n c]) (h0 : 0 < z) (h1 : z ≤ 1048576) (hn : n ≤ 1099510000000) :
    Calls Try.prog 25 #[.slice A n c, .int .i64 z] w (GivesInt (z + (n : Int)) w) := by
  have H := Lib.hid h
  clear h
  go_enter Try.func25, Try.ntmps25
  go_wp2
  go_loopw [1, 5] (fun zv iv wr => ∃ i : Nat, i ≤ n ∧ iv = .int .i64 i ∧ zv = .int .i64 (z + (i : Int)) ∧ Below w.heap.size w wr) (fun _ iv _ => n - (intOf iv).toNat)
  case atStart => exact ⟨0, Nat.zero_le _, rfl, by simp, Below.refl _ _⟩
  case round =>
    obtain ⟨i, hin, rfl, rfl, hb⟩ := hrel
    have HB := Lib.hid hb
    clear hb
    by_cases hlt : i < n
    · obtain ⟨b, off, v, rfl, hbw, hv, hc⟩ := strs_at (H.out.below HB.out) hlt
      obtain rfl : mtext (z + (i : Int)).toNat = v := by rw [marksS_at hlt] at hv; exact Option.some.inj hv
      have K0 : Hid (wr.drew.cell? ⟨b, off + i, none⟩ = some (.string (mtext (z + (i : Int)).toNat))) := Lib.hid hc
      clear hv
      go_wp2_with fail
      go_region_held3 (fun w' => w'.cell? ⟨b, off + i, none⟩ = some (.string (mtext (z + (i : Int)).toNat)))
        (first | exact K0.out | exact K1.out)
        ((go_at_call 52; refine (markTextZ _ _ (by omega) (by omega)).mono ?_; rintro e w2 ⟨rfl, hb2⟩; have K1 := Lib.hid (cell_low8 hb2 (by show b < wr.drew.heap.size; exact hbw) K0.out); have HB2 := Lib.hid (HB.out.trans ((show Below wr.heap.size wr w2 from (Below.refl _ _).drew.trans hb2).mono HB.out.size)); clear hb2))
      all_goals (
        go_wp2_with fail
        go_roundw
        case rel => exact ⟨i + 1, by omega, by go_num, by go_num, HB2.out⟩
        case measure => (simp [intOf]; try omega))
    · have hE : i = n := by omega
      subst hE
      go_wp2_with fail
      go_ret
      exact GivesInt.ret rfl HB.out
set_option maxRecDepth 100000 in
set_option maxHeartbeats 2000000 in
theorem eqStrS (L : List ByteArray) (A A' : Option Addr) (n n' c c' : Nat) (w : World) (h : Lies w (.l (L.map Dat.s)) [.slice A n c]) (h' : Lies w (.l (L.map Dat.s)) [.slice A' n' c']) (hn : n ≤ 1099511627776) : Calls Try.prog 21 #[.slice A n c, .slice A' n' c'] w (GivesBool true w) := by
  obtain rfl : n = n' := by rw [← h.count, ← h'.count]
  have H := Lib.hid h
  have H' := Lib.hid h'
  clear h h'
  go_enter Try.func21, Try.ntmps21
  go_wp2
  go_loopw [5] (fun iv wr => ∃ i : Nat, i ≤ n ∧ iv = .int .i64 i ∧ Below w.heap.size w wr) (fun iv _ => n - (intOf iv).toNat)
  case atStart => exact ⟨0, Nat.zero_le _, rfl, Below.refl _ _⟩
  case round =>
    obtain ⟨i, hin, rfl, hb⟩ := hrel
    by_cases hlt : i < n
    · obtain ⟨b, off, z, rfl, hbw, hzi, hcell⟩ := strs_at (H.out.below hb) hlt
      obtain ⟨b', off', z', rfl, hbw', hzi', hcell'⟩ := strs_at (H'.out.below hb) hlt
      obtain rfl : z = z' := by rw [hzi] at hzi'; exact Option.some.inj hzi'
      have HB := Lib.hid hb
      clear hzi hzi' hb
      go_wp2
      go_quiet (fail)
      go_wp2
      go_roundw
      case rel => exact ⟨i + 1, by omega, by go_num, below_drewN HB.out _⟩
      case measure => simp [intOf]; omega
    · have HB := Lib.hid hb
      clear hb
      go_wp2
      go_ret
      exact GivesBool.ret HB.out
end Go.Proofs.Ytgibhbplgiejpaa
