/- Chapter 8, the program's: the first place where an unset register is read. -/
import Derived.Test.YtgibhbplgiejpaaGreatChkA
import Derived.Test.YtgibhbplgiejpaaGreatOnce
import Derived.Test.YtgibhbplgiejpaaGreatRegsI
namespace Go.Proofs.YtgibhbplgiejpaaGreat
open Go.RowKit
set_option linter.unusedVariables false
set_option linter.unusedSimpArgs false
/-! ### Data cut short; rows of bools -/
theorem LiesAll.take {w : World} : ∀ {ds : List Dat} {cs : List Value} (p : Nat), LiesAll w ds cs → ∃ cs', LiesAll w (ds.take p) cs' ∧ ∀ (j : Nat) (v : Value), cs'[j]? = some v → cs[j]? = some v
  | ds, cs, 0, h => ⟨[], by rw [List.take_zero, LiesAll], fun j v hj => by simp at hj⟩
  | [], cs, p + 1, h => ⟨cs, h, fun j v hj => hj⟩
  | d :: ds, cs, p + 1, h => by
    rw [LiesAll] at h
    obtain ⟨c1, c2, rfl, h1, h2⟩ := h
    obtain ⟨cs', h3, h4⟩ := LiesAll.take p h2
    refine ⟨c1 ++ cs', ?_, fun j v hj => ?_⟩
    · rw [List.take_succ_cons, LiesAll]
      exact ⟨c1, cs', rfl, h1, h3⟩
    · by_cases hl : j < c1.length
      · rw [List.getElem?_append_left hl] at hj ⊢
        exact hj
      · rw [List.getElem?_append_right (by omega)] at hj ⊢
        exact h4 _ _ hj
theorem Lies.cut {w : World} {ds : List Dat} {A : Option Addr} {n c p : Nat} (h : Lies w (.l ds) [.slice A n c]) (hp : p ≤ n) : Lies w (.l (ds.take p)) [.slice A p c] := by
  rw [Lies] at h ⊢
  obtain ⟨A', n', c', e, hn, h⟩ := h
  simp only [List.cons.injEq, Value.slice.injEq, and_true] at e
  obtain ⟨rfl, rfl, rfl⟩ := e
  refine ⟨A, p, c, rfl, by rw [List.length_take]; omega, ?_⟩
  rcases h with rfl | ⟨b, off, xs, e, ⟨hlt, hnc⟩, hx, hc⟩
  · exact Or.inl (by simp)
  · obtain ⟨cs', h3, h4⟩ := hx.take p
    exact Or.inr ⟨b, off, cs', e, ⟨hlt, by omega⟩, h3, fun j v hj => hc j v (h4 j v hj)⟩
def bools (U : List Bool) : Dat := .l (U.map Dat.b)
theorem bools_w (U : List Bool) : ∀ x ∈ U.map Dat.b, x.width = 1 := fun x hx => by
  obtain ⟨y, -, rfl⟩ := List.mem_map.1 hx
  rfl
theorem bools_at {w : World} {U : List Bool} {A : Option Addr} {n c j : Nat} (h : Lies w (bools U) [.slice A n c]) (hj : j < n) : ∃ b off v, A = some ⟨b, off, none⟩ ∧ b < w.heap.size ∧ U[j]? = some v ∧ w.cell? ⟨b, off + j, none⟩ = some (.bool v) := by
  obtain ⟨b, off, d, xs, rfl, hbw, hzi, hlie, hlen, hcell0⟩ := Lies.elem (k := 1) h (bools_w U) hj
  obtain ⟨v, hv, rfl⟩ : ∃ v, U[j]? = some v ∧ d = .b v := by
    rw [List.getElem?_map] at hzi
    cases h1 : U[j]? with
    | none => rw [h1] at hzi; cases hzi
    | some x => rw [h1] at hzi; exact ⟨x, rfl, (Option.some.inj hzi).symm⟩
  rw [Lies] at hlie
  subst hlie
  exact ⟨b, off, v, rfl, hbw, hv, by have h1 := hcell0 0 _ rfl; simpa using h1⟩
/-- An owned row of bools: a cell of it, and what a store leaves. -/
theorem own_slot {w : World} {U : List Bool} {g n c j : Nat} {B : Nat → Prop} (h : Owns w (bools U) [.slice (some ⟨g, 0, none⟩) n c] B) (hj : j < n) :
    ∃ v, U[j]? = some v ∧ w.cell? ⟨g, j, none⟩ = some (.bool v) ∧ w.frozen? ⟨g, j, none⟩ = false := by
  obtain ⟨b, off, v, e, hb, hv, hc⟩ := bools_at h.lies hj
  injection e with e
  injection e with e1 e2
  subst e1 e2
  obtain ⟨g', E, cur, d, xs, Bi, Br, e, -, -, -, -, h3, -, -, h6, h7, -⟩ := Owns.focus (k := 1) h (bools_w U) hj
  obtain rfl : g = g' := by injection e with e; injection e
  exact ⟨v, hv, by simpa using hc, h7 j⟩
theorem own_set {w : World} {U : List Bool} {g n c j : Nat} {B : Nat → Prop} (h : Owns w (bools U) [.slice (some ⟨g, 0, none⟩) n c] B) (hj : j < n) (v : Bool) :
    Owns (w.setCell ⟨g, j, none⟩ (.bool v)) (bools (U.set j v)) [.slice (some ⟨g, 0, none⟩) n c] B := by
  have hp := Owns.put (S := fun _ => False) (Bi' := fun _ => False) (d' := .b v) (xs' := [.bool v]) (i := j) (k := 1) h (bools_w U) hj (Touch.refl _ w) (fun b hb => hb.elim) rfl (by rw [Owns]) (fun b hb => hb.elim)
  rw [Nat.mul_one] at hp
  unfold bools
  rw [List.map_set]
  exact hp.mono (fun b hb => hb.elim (fun h => h) (fun h => h.elim))
theorem own_made {w : World} {base : Nat} {E : TypeId} {n g : Nat} (h : w.ownsRow base E 1 (.slice (some ⟨g, 0, none⟩) n n) n (madeCells #[.bool false] n).toList) : Owns w (bools (List.replicate n false)) [.slice (some ⟨g, 0, none⟩) n n] (fun b => b = g) := by
  have hz : ∀ w, Owns w (.b false) (#[.bool false] : Array Value).toList (fun _ => False) := fun w => by rw [Owns]
  have h1 := Owns.made (z := .b false) (zc := #[.bool false]) (n := n) hz (by rw [show (#[Value.bool false]).size = 1 from rfl, Nat.mul_one]; exact h)
  unfold bools
  rw [List.map_replicate]
  exact h1
theorem infoBool : (Tryz.prog.info? 4).map (fun i => (i.zero, i.size, i.bytes)) = some (some (.bool false), 1, 1) := by kernel_rfl
/-! ### Registers that are read -/
def insL (L : List Dat) : List I := L.map insOf
theorem insL_len (L : List Dat) : (insL L).length = L.length := by rw [insL, List.length_map]
theorem insL_at {L : List Dat} {i : Nat} {d : Dat} (h : L[i]? = some d) : (insL L)[i]? = some (insOf d) := by rw [insL, List.getElem?_map, h]; rfl
theorem insL_take (L : List Dat) (p : Nat) : insL (L.take p) = (insL L).take p := by rw [insL, insL, List.map_take]
theorem regsOf_len (x : I) : (regsOf x).length ≤ 3 := by
  have h := passed_len x.c x.d
  unfold regsOf
  (repeat' split) <;> simp <;> omega
theorem reads_next {L : List Dat} {i : Nat} {d : Dat} (h : L[i]? = some d) : readsL (insL (L.take (i + 1))) = readsL (insL (L.take i)) ++ regsOf (insOf d) := by
  rw [List.take_add_one, h]
  unfold readsL insL
  simp
theorem implRegsD (d : Dat) (f0 f1 f2 f3 f4 : Int) (f5 : ByteArray) (w : World) (hd : d = .r [.i f0, .i f1, .i f2, .i f3, .i f4, .s f5]) : Calls Tryz.prog 9 #[.agg #[.int .i64 f0, .int .i64 f1, .int .i64 f2, .int .i64 f3, .int .i64 f4, .string f5]] w (Fresh .i64 3 (regsOf (insOf d)) w) := by
  subst hd
  exact implRegs ⟨f0, f1, f2, f3, f4, f5⟩ w
/-- What was read so far. -/
structure Reads (W : World) (zs : List Int) (w : World) (A : Option Addr) (n c : Nat) : Prop where
  own : Own .i64 3 W.heap.size w.heap.size w A n c zs
  low : Below W.heap.size W w
theorem Reads.next {W w w1 w2 : World} {zs ys : List Int} {A A2 : Option Addr} {n c n2 c2 : Nat} (h : Reads W zs w A n c) (hb : Below w.heap.size w w1) (hO : Own .i64 3 W.heap.size w2.heap.size w2 A2 n2 c2 (zs ++ ys)) (hS : Step W.heap.size w.heap.size w1 w2) : Reads W (zs ++ ys) w2 A2 n2 c2 := by
  have h1 := h.low.trans (hb.mono h.low.size)
  exact ⟨hO, hS.below h1 (Nat.le_refl _) h1.size⟩
theorem Reads.start (W : World) : Reads W [] (W.alloc (.cells #[] 3)) (some ⟨W.heap.size, 0, none⟩) 0 0 := by
  have h := Own.none_ .i64 3 W
  exact ⟨by rw [World.size_alloc]; exact h, (Below.refl _ _).alloc (Nat.le_refl _) _⟩
set_option maxRecDepth 100000 in
set_option maxHeartbeats 4000000 in
theorem implReads (L : List Dat) (A : Option Addr) (n c : Nat) (w : World) (h : Lies w (.l L) [.slice A n c]) (ht : ∀ x ∈ L, Has tyInstr x) (hn : n ≤ 1099511627776) :
    Calls Tryz.prog 29 #[.slice A n c] w (Fresh .i64 3 (readsL (insL L)) w) := by
  obtain ⟨i0, hi, hz0, hz1, hz2⟩ := info_parts infoI
  have H := Lib.hid h
  have HT := Lib.hid ht
  have HC := Lib.hid h.count
  have R0 := Lib.hid (Reads.start w)
  clear h ht
  go_enter Tryz.func29, Tryz.ntmps29
  go_wp2
  go_loopw [3, 9] (fun sv iv wr => ∃ (A' : Option Addr) (m cap i : Nat), sv = .slice A' m cap ∧ iv = .int .i64 i ∧ i ≤ n ∧ m ≤ 3 * i ∧ Reads w (readsL (insL (L.take i))) wr A' m cap) (fun _ iv _ => n - (intOf iv).toNat)
  case atStart => exact ⟨_, _, _, 0, rfl, rfl, Nat.zero_le _, Nat.zero_le _, R0.out⟩
  case round =>
    obtain ⟨A', m, cap, i, rfl, rfl, hin, hm3, hR⟩ := hrel
    have R := Lib.hid hR
    clear hR R0
    by_cases hlt : i < n
    · obtain ⟨b, off, d, xs, rfl, hbw, hzi, hlie, hlen, hcell⟩ := (H.out.below R.out.low).elem (fun x hx => (HT.out x hx).width) hlt
      obtain ⟨f0, f1, f2, f3, f4, f5, hd, rfl, hf5⟩ := invInstr (HT.out d (List.mem_of_getElem? hzi)) hlie
      have r0 : wr.cell? ⟨b, off + i * 6, none⟩ = some (.int .i64 f0) := hcell 0 _ rfl
      have r1 : wr.cell? ⟨b, off + i * 6 + 1, none⟩ = some (.int .i64 f1) := hcell 1 _ rfl
      have r2 : wr.cell? ⟨b, off + i * 6 + 2, none⟩ = some (.int .i64 f2) := hcell 2 _ rfl
      have r3 : wr.cell? ⟨b, off + i * 6 + 3, none⟩ = some (.int .i64 f3) := hcell 3 _ rfl
      have r4 : wr.cell? ⟨b, off + i * 6 + 4, none⟩ = some (.int .i64 f4) := hcell 4 _ rfl
      have r5 : wr.cell? ⟨b, off + i * 6 + 5, none⟩ = some (.string f5) := hcell 5 _ rfl
      have HN := Lib.hid (reads_next hzi)
      have HD := Lib.hid hd
      clear hzi hcell hlie hd
      have B1 : Hid (∀ o, Below wr.heap.size wr (wr.alloc o)) := Lib.hid (fun o => (Below.refl _ _).alloc (Nat.le_refl _) o)
      go_wp2_with fail
      refine (implRegsD d f0 f1 f2 f3 f4 f5 _ HD.out).mono ?_
      rintro e w2 ⟨A2, m2, c2, rfl, hO2, hb2⟩
      have hm2 : m2 ≤ 3 := by have h1 := hO2.1; have h2 := regsOf_len (insOf d); omega
      have HB := Lib.hid ((B1.out _).trans (hb2.mono (B1.out _).size))
      have HZ := Lib.hid hO2.rz
      have hlo := HB.out.size
      have hlw := R.out.low.size
      clear hO2 hb2
      go_wp2_with (at_builtin; refine wpList_append_rz _ rfl _ _ 29 rfl .i64 3 i0 0 8 Tryz.underlying29 hi hz0 hz1 hz2 w.heap.size wr.heap.size A' m cap _ rfl (R.out.own.below HB.out) A2 m2 c2 _ rfl HZ.out (by unfold maxLen; omega) (by omega) (by omega) ?_; intro A3 c3 w3 hO3 hS3; have R3 := Lib.hid (R.out.next HB.out hO3 hS3); clear hO3 hS3)
      go_roundw
      case rel => exact ⟨A3, m + m2, c3, i + 1, rfl, by go_num, by omega, by omega, by rw [HN.out]; exact R3.out⟩
      case measure => simp [intOf]; omega
    · have : i = n := by omega
      subst this
      have HE : Hid (L.take i = L) := Lib.hid (List.take_of_length_le (by rw [HC.out]; exact Nat.le_refl _))
      go_wp2
      go_ret
      have hr := R.out
      rw [HE.out] at hr
      exact Fresh.ret hr.own hr.low
/-! ### Whether an integer is there -/
def isAt (zs : List Int) (v : Int) (j : Nat) : Bool := decide (zs[j]? = some v)
def idxZ (zs : List Int) (v : Int) : Int := firstP (isAt zs v) zs.length
theorem isAt_t {zs : List Int} {v : Int} {j : Nat} (h : zs[j]? = some v) : isAt zs v j = true := decide_eq_true h
theorem isAt_f {zs : List Int} {v z : Int} {j : Nat} (h : zs[j]? = some z) (hne : ¬ v = z) : isAt zs v j = false := decide_eq_false (by rw [h]; intro e; exact hne (Option.some.inj e).symm)
theorem idxZ_has (zs : List Int) (v : Int) : decide (0 ≤ idxZ zs v) = zs.contains v := by
  rcases firstP_cases (isAt zs v) zs.length with ⟨h1, h2⟩ | ⟨k, h1, h2, h3, h4⟩
  · rw [idxZ, h1]
    have : zs.contains v = false := by
      rw [Bool.eq_false_iff]
      intro hc
      obtain ⟨j, hj⟩ := List.mem_iff_getElem?.1 (List.contains_iff_mem.1 hc)
      have h5 := h2 j (List.getElem?_eq_some_iff.1 hj).1
      rw [isAt_t hj] at h5
      cases h5
    rw [this]; rfl
  · rw [idxZ, h1]
    have : zs.contains v = true := List.contains_iff_mem.2 (List.mem_of_getElem? (of_decide_eq_true h3))
    rw [this]
    exact decide_eq_true (by omega)
set_option maxHeartbeats 2000000 in
theorem idxInt (zs : List Int) (v : Int) (A : Option Addr) (n c : Nat) (w : World) (h : Rz .i64 w A n zs) (hn : n ≤ 1099511627776) :
    Calls Tryz.prog 91 #[.slice A n c, .int .i64 v] w (GivesInt (idxZ zs v) w) := by
  have H := Lib.hid h
  clear h
  go_enter Tryz.func91, Tryz.ntmps91
  go_wp2
  go_loop [8] (fun iv => ∃ i : Nat, i ≤ n ∧ iv = .int .i64 i ∧ ∀ j, j < i → isAt zs v j = false) (fun iv => n - (intOf iv).toNat)
  case atStart => exact ⟨0, Nat.zero_le _, rfl, fun j hj => by omega⟩
  case round =>
    obtain ⟨i, hin, rfl, hno⟩ := hrel
    have HNO := Lib.hid hno
    clear hno
    by_cases hlt : i < n
    · obtain ⟨b, off, z, rfl, hbw, hzi, hcell⟩ := H.out.at_ hlt
      have HZ := Lib.hid hzi
      clear hzi
      by_cases he : v = z
      · subst he
        have HE : Hid ((i : Int) = idxZ zs v) := Lib.hid (firstP_at HNO.out (by rw [H.out.1]; exact hlt) (isAt_t HZ.out)).symm
        go_wp2
        go_ret
        exact GivesInt.ret HE.out (Below.refl _ _)
      · have HN : Hid (∀ j, j < i + 1 → isAt zs v j = false) := Lib.hid (fun j hj => by
          by_cases hji : j < i
          · exact HNO.out j hji
          · obtain rfl : j = i := by omega
            exact isAt_f HZ.out he)
        have heb : (v == z) = false := by simpa using he
        clear he
        go_wp2
        go_round
        case rel => exact ⟨i + 1, by omega, by go_num, HN.out⟩
        case measure => simp [intOf]; omega
    · have HE : Hid (-1 = idxZ zs v) := Lib.hid (firstP_none (p := isAt zs v) (fun j hj => HNO.out j (by have h1 := H.out.1; omega))).symm
      go_wp2
      go_ret
      exact GivesInt.ret HE.out (Below.refl _ _)
theorem hasInt (zs : List Int) (v : Int) (A : Option Addr) (n c : Nat) (w : World) (h : Rz .i64 w A n zs) (hn : n ≤ 1099511627776) :
    Calls Tryz.prog 56 #[.slice A n c, .int .i64 v] w (GivesBool (zs.contains v) w) := by
  have HA := Lib.hid (idxZ_has zs v)
  obtain ⟨k, hk⟩ : ∃ k, idxZ zs v = k := ⟨_, rfl⟩
  have HR := Lib.hid hk
  clear hk
  go_enter Tryz.func56, Tryz.ntmps56
  go_wp2_with fail
  refine (idxInt zs v A n c _ h hn).mono ?_
  rintro e w2 ⟨rfl, hb⟩
  rw [HR.out]
  have HB := Lib.hid hb
  clear hb
  go_wp2_with fail
  go_ret
  exact GivesBool.of (by rw [← HA.out, HR.out]) HB.out
/-! ### The place behind what is skipped -/
theorem behind_in {k n : Nat} {b : Int} (h : inR b 0 ((n : Int) - k) = true) : (k : Int) + b = ((behind k b n : Nat) : Int) := by
  have h1 : 0 ≤ b ∧ b ≤ (n : Int) - k := by simpa [inR] using h
  rw [behind, if_pos (by omega)]
  omega
theorem behind_out {k n : Nat} {b : Int} (h : inR b 0 ((n : Int) - k) = false) : (n : Int) = ((behind k b n : Nat) : Int) := by
  have h1 : ¬ (0 ≤ b ∧ b ≤ (n : Int) - k) := by simpa [inR] using h
  rw [behind, if_neg (by omega)]
theorem behind_b {k n : Nat} {b : Int} (h : inR b 0 ((n : Int) - k) = true) : 0 ≤ b ∧ b ≤ (n : Int) - k := by simpa [inR] using h
set_option maxHeartbeats 1000000 in
theorem implBehind (k n : Nat) (b : Int) (w : World) (hk : k ≤ n) (hn : n ≤ 4398046511104) : Calls Tryz.prog 58 #[.int .i64 k, .int .i64 b, .int .i64 n] w (GivesInt (behind k b n : Nat) w) := by
  obtain ⟨v, hv⟩ : ∃ v, inR b 0 ((n : Int) - k) = v := ⟨_, rfl⟩
  have HV := Lib.hid hv
  clear hv
  cases v with
  | true =>
    have HE := Lib.hid (behind_in HV.out)
    obtain ⟨hb0, hb1⟩ := behind_b HV.out
    go_enter Tryz.func58, Tryz.ntmps58
    go_wp2_with fail
    refine (implInR b 0 ((n : Int) - k) _).mono ?_
    rintro e w' ⟨rfl, rfl⟩
    rw [HV.out]
    go_wp2_with fail
    go_ret
    exact GivesInt.ret HE.out (Below.refl _ _)
  | false =>
    have HE := Lib.hid (behind_out HV.out)
    go_enter Tryz.func58, Tryz.ntmps58
    go_wp2_with fail
    refine (implInR b 0 ((n : Int) - k) _).mono ?_
    rintro e w' ⟨rfl, rfl⟩
    rw [HV.out]
    go_wp2_with fail
    go_ret
    exact GivesInt.ret HE.out (Below.refl _ _)
end Go.Proofs.YtgibhbplgiejpaaGreat
