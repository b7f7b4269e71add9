/- The law laws.FnIntegers returns true: the draws, and the law over the contracts of ParseInt, FormatInt, CeilDiv and Mod. Condition: the listed package variables read as their text lays them. -/
import Derived.Test.YtfbjoglekmclpaaDoorParse
import Derived.Test.YtfbjoglekmclpaaDoorDraw
namespace Go.Proofs.YtfbjoglekmclpaaDoor
open Go.RowKit
set_option linter.unusedVariables false
open Go.Lib (itoa itoa_nonneg itoa_length_le)

theorem Left.below {B g : Nat} {w w' : World} (h : Left B g w w') (hc : Cur w B g) : Below B w w' := h.2.below (by obtain ⟨A, n, c, zs, i, hh, hg, hl, hn, hz, hR, hi, hB⟩ := hc; exact hB) hc.le
theorem Code.below {w w' : World} {A : Option Addr} {n : Nat} (h : Code w A n) (hb : Below w.heap.size w w') : Code w' A n := by
  obtain ⟨zs, hl, hn, hz, hR⟩ := h
  exact ⟨zs, hl, hn, hz, (hR.below hb).more hb.size⟩
/-- An int, and what was there stands. -/
def AnInt (w : World) (e : Ending) (w' : World) : Prop := ∃ x : Int, -wide ≤ x ∧ x ≤ wide - 1 ∧ e = .returned (.int .i64 x) ∧ Below w.heap.size w w'
theorem AnInt.ret {w w' : World} {x : Int} (h1 : -wide ≤ x) (h2 : x ≤ wide - 1) (hb : Below w.heap.size w w') : AnInt w (.returned (.int .i64 x)) w' := ⟨x, h1, h2, rfl, hb⟩
def AText (w : World) (e : Ending) (w' : World) : Prop := ∃ s : ByteArray, s.size ≤ 100 ∧ e = .returned (.string s) ∧ Below w.heap.size w w'
theorem AText.ret {w w' : World} {s : ByteArray} (h1 : s.size ≤ 100) (hb : Below w.heap.size w w') : AText w (.returned (.string s)) w' := ⟨s, h1, rfl, hb⟩
def TwoInts (w : World) (e : Ending) (w' : World) : Prop := ∃ x y : Int, -wide ≤ x ∧ x ≤ wide - 1 ∧ -wide ≤ y ∧ y ≤ wide - 1 ∧ e = .returned (.tuple #[.int .i64 x, .int .i64 y]) ∧ Below w.heap.size w w'
theorem TwoInts.ret {w w' : World} {x y : Int} (h1 : -wide ≤ x) (h2 : x ≤ wide - 1) (h3 : -wide ≤ y) (h4 : y ≤ wide - 1) (hb : Below w.heap.size w w') : TwoInts w (.returned (.tuple #[.int .i64 x, .int .i64 y])) w' := ⟨x, y, h1, h2, h3, h4, rfl, hb⟩
theorem drawFormatInt (A : Option Addr) (n c : Nat) (w : World) (hc : Code w A n) (hn : n ≤ 1048576) : Calls Tryd.prog 9 #[.slice A n c] w (AnInt w) := by
  go_enter Tryd.func9, Tryd.ntmps9
  go_wp2_with fail
  refine (l1New A n c _ hc hn).mono ?_
  rintro e w1 ⟨g, rfl, hC1, hb1⟩
  go_wp2_with fail
  refine (l1One _ g _ hC1).mono ?_
  rintro e w2 ⟨x, hx0, hx1, rfl, hL2⟩
  go_wp2_with fail
  go_ret
  exact AnInt.ret hx0 hx1 (hb1.trans (hL2.below hC1))
theorem drawCeilDiv (A : Option Addr) (n c : Nat) (w : World) (hc : Code w A n) (hn : n ≤ 1048576) : Calls Tryd.prog 11 #[.slice A n c] w (TwoInts w) := by
  go_enter Tryd.func11, Tryd.ntmps11
  go_wp2_with fail
  refine (l1New A n c _ hc hn).mono ?_
  rintro e w1 ⟨g, rfl, hC1, hb1⟩
  go_wp2_with fail
  refine (l1One _ g _ hC1).mono ?_
  rintro e w2 ⟨x, hx0, hx1, rfl, hL2⟩
  go_wp2_with fail
  refine (l1One _ g _ hL2.1).mono ?_
  rintro e w3 ⟨y, hy0, hy1, rfl, hL3⟩
  go_wp2_with fail
  go_ret2
  exact TwoInts.ret hx0 hx1 hy0 hy1 (hb1.trans ((hL2.trans hL3).below hC1))
theorem itoa_short (n : Int) (h0 : -9223372036854775808 ≤ n) (h1 : n ≤ 9223372036854775807) : (⟨(itoa n).toArray⟩ : ByteArray).size ≤ 21 := by
  have := itoa_length_le n h0 h1
  simpa [ByteArray.size] using this
theorem drawParseInt (A : Option Addr) (n c : Nat) (w : World) (hc : Code w A n) (hn : n ≤ 1048576) : Calls Tryd.prog 7 #[.slice A n c] w (AText w) := by
  go_enter Tryd.func7, Tryd.ntmps7
  go_wp2_with fail
  refine (l1New A n c _ hc hn).mono ?_
  rintro e w1 ⟨g, rfl, hC1, hb1⟩
  go_wp2_with fail
  refine (l1Once _ g 2 _ (by omega) (by omega) hC1).mono ?_
  rintro e w2 ⟨b, rfl, hL2⟩
  cases b
  · go_wp2_with fail
    refine (l1Num _ g _ hL2.1).mono ?_
    rintro e w3 ⟨x, hx0, hx1, rfl, hL3⟩
    go_wp2_with fail
    refine (specFormatInt x _ (by omega) (by omega)).mono ?_
    rintro e w4 ⟨rfl, hb4⟩
    have hsz := itoa_short x (by omega) (by omega)
    go_wp2_with fail
    go_ret
    exact AText.ret (by omega) ((hb1.trans ((hL2.trans hL3).below hC1)).trans (hb4.mono (by have := (hb1.trans ((hL2.trans hL3).below hC1)).size; omega)))
  · go_wp2_with fail
    refine (l1Str_new _ g [⟨#[]⟩, ⟨#[48]⟩, ⟨#[48, 48]⟩, ⟨#[45, 49]⟩, ⟨#[48, 49]⟩, ⟨#[55]⟩, ⟨#[49, 48, 48, 48, 48, 48, 48, 48, 48, 48, 48, 48, 48]⟩, ⟨#[49, 48, 48, 48, 48, 48, 48, 48, 48, 48, 48, 48, 49]⟩, ⟨#[57, 57, 57, 57, 57, 57, 57, 57, 57, 57, 57, 57, 57, 57]⟩, ⟨#[49, 120]⟩, ⟨#[32, 49]⟩] 11 14 _ rfl (by decide) (by omega) (by omega) hL2.1 _ rfl _).mono ?_
    rintro e w3 ⟨s, hs, rfl, hL3⟩
    go_wp2_with fail
    go_ret
    exact AText.ret (by omega) (hb1.trans ((hL2.trans hL3).below hC1))

/-! ### CeilDiv and Mod -/
/-- The remainder that both functions return. -/
def modV (p q : Int) : Int := if 1 ≤ q ∧ q ≤ 1000000000000 then p % q else 0
theorem ret_int {k : IntKind} {a b : Int} (h : a = b) : Ending.returned (.int k a) = .returned (.int k b) := by rw [h]
theorem modV_out {p q : Int} (h : ¬ (1 ≤ q ∧ q ≤ 1000000000000)) : modV p q = 0 := if_neg h
theorem modV_in {p q : Int} (h1 : 1 ≤ q) (h2 : q ≤ 1000000000000) : modV p q = p % q := if_pos ⟨h1, h2⟩
theorem tmod_neg_ne {p q : Int} (hp : p < 0) (hq : 1 ≤ q) (h : p.tmod q < 0) : p.tmod q + q = p % q := by
  have e := Int.tmod_eq_emod (a := p) (b := q)
  have l := Int.emod_nonneg p (by omega : q ≠ 0)
  have u := Int.emod_lt_of_pos p (by omega : 0 < q)
  split at e <;> omega
theorem tmod_neg_ge {p q : Int} (hp : p < 0) (hq : 1 ≤ q) (h : ¬ p.tmod q < 0) : p.tmod q = p % q := by
  have e := Int.tmod_eq_emod (a := p) (b := q)
  have l := Int.emod_nonneg p (by omega : q ≠ 0)
  have u := Int.emod_lt_of_pos p (by omega : 0 < q)
  split at e <;> omega
set_option maxHeartbeats 400000 in
theorem implMod (p q : Int) (w : World) : Calls Tryd.prog 13 #[.int .i64 p, .int .i64 q] w fun e w' => e = .returned (.int .i64 (modV p q)) ∧ w = w' := by
  by_cases h1 : 1 ≤ q
  · by_cases h2 : q ≤ 1000000000000
    · have hb1 := Int.lt_tmod_of_pos p (by omega : 0 < q)
      have hb2 := Int.tmod_lt_of_pos p (by omega : 0 < q)
      by_cases hp : 0 ≤ p
      · have hb3 := Int.emod_nonneg p (by omega : q ≠ 0)
        have hb4 := Int.emod_lt_of_pos p (by omega : 0 < q)
        go_enter Tryd.func13, Tryd.ntmps13
        go_wp2
        go_ret
        exact ⟨ret_int (by rw [modV_in h1 h2]), rfl⟩
      · have hp' : p < 0 := by omega
        by_cases ht : p.tmod q < 0
        · go_enter Tryd.func13, Tryd.ntmps13
          go_wp2
          go_ret
          exact ⟨ret_int (by rw [modV_in h1 h2]; exact tmod_neg_ne hp' h1 ht), rfl⟩
        · go_enter Tryd.func13, Tryd.ntmps13
          go_wp2
          go_ret
          exact ⟨ret_int (by rw [modV_in h1 h2]; exact tmod_neg_ge hp' h1 (by omega)), rfl⟩
    · go_enter Tryd.func13, Tryd.ntmps13
      go_wp2
      go_ret
      exact ⟨ret_int (by rw [modV_out (by omega)]), rfl⟩
  · go_enter Tryd.func13, Tryd.ntmps13
    go_wp2
    go_ret
    exact ⟨ret_int (by rw [modV_out (by omega)]), rfl⟩


def ceilV (a b : Int) : Int := if 0 ≤ a ∧ a ≤ 1000000000000 ∧ 1 ≤ b ∧ b ≤ 1000000000000 then (a + b - 1) / b else 0
theorem ceilV_in {a b : Int} (h1 : 0 ≤ a) (h2 : a ≤ 1000000000000) (h3 : 1 ≤ b) (h4 : b ≤ 1000000000000) : ceilV a b = (a + b - 1) / b := if_pos ⟨h1, h2, h3, h4⟩
theorem ceilV_out {a b : Int} (h : ¬ (0 ≤ a ∧ a ≤ 1000000000000 ∧ 1 ≤ b ∧ b ≤ 1000000000000)) : ceilV a b = 0 := if_neg h
set_option maxHeartbeats 1000000 in
theorem implCeil (a b : Int) (w : World) : Calls Tryd.prog 12 #[.int .i64 a, .int .i64 b] w fun e w' => e = .returned (.int .i64 (ceilV a b)) ∧ w = w' := by
  by_cases h1 : 0 ≤ a
  · by_cases h2 : a ≤ 1000000000000
    · by_cases h3 : 1 ≤ b
      · by_cases h4 : b ≤ 1000000000000
        · go_enter Tryd.func12, Tryd.ntmps12
          go_wp2
          go_ret
          exact ⟨ret_int (by rw [ceilV_in h1 h2 h3 h4]), rfl⟩
        · go_enter Tryd.func12, Tryd.ntmps12
          go_wp2
          go_ret
          exact ⟨ret_int (by rw [ceilV_out (by omega)]), rfl⟩
      · go_enter Tryd.func12, Tryd.ntmps12
        go_wp2
        go_ret
        exact ⟨ret_int (by rw [ceilV_out (by omega)]), rfl⟩
    · go_enter Tryd.func12, Tryd.ntmps12
      go_wp2
      go_ret
      exact ⟨ret_int (by rw [ceilV_out (by omega)]), rfl⟩
  · go_enter Tryd.func12, Tryd.ntmps12
    go_wp2
    go_ret
    exact ⟨ret_int (by rw [ceilV_out (by omega)]), rfl⟩

/-! ### ParseInt of a numeral -/
theorem parse_of_itoa (m : Int) (w : World) (h0 : -9223372036854775808 ≤ m) (h1 : m ≤ 9223372036854775807) (hV : Vars w) (hr : 0 ≤ m ∧ m ≤ 1000000000000) :
    Calls Tryd.prog 8 #[.string ⟨(itoa m).toArray⟩] w fun e w' => e = .returned (.tuple #[.int .i64 m, .bool true]) ∧ Below w.heap.size w w' := by
  have hs := itoa_short m h0 h1
  have e0 : itoa m = Lib.decDigits m.toNat := by rw [← itoa_nonneg, Int.toNat_of_nonneg hr.1]
  have hp := pok_of (l := itoa m) (u := m.toNat) (by omega) e0.symm
  refine (implParse _ w (by omega) hV).mono ?_
  rintro e w' ⟨he, hb⟩
  refine ⟨?_, hb⟩
  rw [he]
  have e1 : (⟨(itoa m).toArray⟩ : ByteArray).data.toList = itoa m := rfl
  exact ret_ib (by rw [e1, pval_yes hp.1, hp.2]; omega) (by rw [e1]; exact hp.1)
theorem minus_head (m : Int) (h : m < 0) : ∃ l, itoa m = 45 :: l := ⟨_, by unfold Lib.itoa; rw [if_pos h]⟩
theorem parse_not_itoa (m : Int) (w : World) (h0 : -9223372036854775808 ≤ m) (h1 : m ≤ 9223372036854775807) (hV : Vars w) (hr : ¬ (0 ≤ m ∧ m ≤ 1000000000000)) :
    Calls Tryd.prog 8 #[.string ⟨(itoa m).toArray⟩] w fun e w' => e = .returned (.tuple #[.int .i64 0, .bool false]) ∧ Below w.heap.size w w' := by
  have hs := itoa_short m h0 h1
  have hp : pok (itoa m) = false := by
    cases e : pok (itoa m) with
    | false => rfl
    | true =>
      exfalso
      by_cases hneg : m < 0
      · obtain ⟨l, hl⟩ := minus_head m hneg
        have := pok_digit e 45 (by rw [hl]; simp)
        revert this
        decide
      · have e0 : itoa m = Lib.decDigits m.toNat := by rw [← itoa_nonneg, Int.toNat_of_nonneg (by omega)]
        rw [e0] at e
        have h2 := (pok_iff.1 e).1
        rw [dval_dec] at h2
        omega
  refine (implParse _ w (by omega) hV).mono ?_
  rintro e w' ⟨he, hb⟩
  refine ⟨?_, hb⟩
  rw [he]
  have e1 : (⟨(itoa m).toArray⟩ : ByteArray).data.toList = itoa m := rfl
  exact ret_ib (by rw [e1, pval_no hp]; rfl) (by rw [e1]; exact hp)

/-! ### The law -/
def True_ (w : World) (e : Ending) (w' : World) : Prop := e = .returned (.bool true) ∧ Below w.heap.size w w'
theorem ret_bool {a b : Bool} (h : a = b) : Ending.returned (.bool a) = .returned (.bool b) := by rw [h]
theorem big_no (A : Option Addr) (n c : Nat) (w : World) (h : n ≤ 1048576) : Calls Tryd.prog 6 #[.slice A n c] w fun e w' => e = .returned (.bool false) ∧ w = w' := by
  go_enter Tryd.func6, Tryd.ntmps6
  go_wp2
  go_ret
  exact ⟨ret_bool (decide_eq_false (by omega)), rfl⟩
theorem big_yes (A : Option Addr) (n c : Nat) (w : World) (h : 1048576 < n) : Calls Tryd.prog 6 #[.slice A n c] w fun e w' => e = .returned (.bool true) ∧ w = w' := by
  go_enter Tryd.func6, Tryd.ntmps6
  go_wp2
  go_ret
  exact ⟨ret_bool (decide_eq_true (by omega)), rfl⟩
/-- What the law asks of ParseInt's answer at s: the numeral of what it gives is s. -/
def Back (s : ByteArray) (np : Int) (kb : Bool) : Prop := 0 ≤ np ∧ np ≤ 1000000000000 ∧ (kb = true → itoa np = s.data.toList)
theorem back_parse (s : ByteArray) : Back s (pval s.data.toList) (pok s.data.toList) := by
  have := pval_le s.data.toList
  refine ⟨by omega, by omega, fun h => ?_⟩
  rw [itoa_nonneg, pval_yes h]
  exact (pok_iff.1 h).2
theorem parse_any (s : ByteArray) (w : World) (hs : s.size ≤ 140737488351232) (hV : Vars w) :
    Calls Tryd.prog 8 #[.string s] w fun e w' => ∃ (np : Int) (kb : Bool), Back s np kb ∧ e = .returned (.tuple #[.int .i64 np, .bool kb]) ∧ Below w.heap.size w w' :=
  (implParse s w hs hV).mono fun _ _ ⟨he, hb⟩ => ⟨_, _, back_parse s, he, hb⟩
/-- ParseInt at a numeral: 0 .. 1000000000000 comes back. -/
def Again (m k : Int) (fine : Bool) : Prop := (0 ≤ m ∧ m ≤ 1000000000000 ∧ fine = true ∧ k = m) ∨ (m < 0 ∧ fine = false ∧ k = 0) ∨ (1000000000000 < m ∧ fine = false ∧ k = 0)
theorem parse_again (m : Int) (w : World) (h0 : -9223372036854775808 ≤ m) (h1 : m ≤ 9223372036854775807) (hV : Vars w) :
    Calls Tryd.prog 8 #[.string ⟨(itoa m).toArray⟩] w fun e w' => ∃ (k : Int) (fine : Bool), Again m k fine ∧ e = .returned (.tuple #[.int .i64 k, .bool fine]) ∧ Below w.heap.size w w' := by
  by_cases hr : 0 ≤ m ∧ m ≤ 1000000000000
  · exact (parse_of_itoa m w h0 h1 hV hr).mono fun _ _ ⟨he, hb⟩ => ⟨_, _, Or.inl ⟨hr.1, hr.2, rfl, rfl⟩, he, hb⟩
  · refine (parse_not_itoa m w h0 h1 hV hr).mono fun _ _ ⟨he, hb⟩ => ⟨_, _, ?_, he, hb⟩
    by_cases hneg : m < 0
    · exact Or.inr (Or.inl ⟨hneg, rfl, rfl⟩)
    · exact Or.inr (Or.inr ⟨by omega, rfl, rfl⟩)
theorem below_on {B : World} {w w' : World} (h : Below B.heap.size B w) (k : Below w.heap.size w w') : Below B.heap.size B w' := h.trans (k.mono h.size)
/-- What the law asks of the remainder. -/
theorem rem_zero {a b : Int} (h : 1 ≤ b) : (a.tmod b - a % b).tmod b = 0 ∧ -b < a.tmod b ∧ a.tmod b < b := by
  have e := Int.tmod_eq_emod (a := a) (b := b)
  have l := Int.emod_nonneg a (by omega : b ≠ 0)
  have u := Int.emod_lt_of_pos a (by omega : 0 < b)
  refine ⟨?_, Int.lt_tmod_of_pos a (by omega), Int.tmod_lt_of_pos a (by omega)⟩
  rw [e]
  split
  · simp
  · have h1 : a % b - ↑b.natAbs - a % b = -b := by omega
    rw [h1]
    simp [Int.neg_tmod]
theorem ceil_fits {a b : Int} (h1 : 0 ≤ a) (h2 : a ≤ 1000000000000) (h3 : 1 ≤ b) (h4 : b ≤ 1000000000000) :
    0 ≤ (a + b - 1) / b ∧ (a + b - 1) / b ≤ 2000000000000 ∧ a ≤ (a + b - 1) / b * b ∧ (a + b - 1) / b * b - a < b := by
  have e := Int.mul_ediv_add_emod (a + b - 1) b
  have l := Int.emod_nonneg (a + b - 1) (by omega : b ≠ 0)
  have u := Int.emod_lt_of_pos (a + b - 1) (by omega : 0 < b)
  have p := Int.ediv_nonneg (by omega : 0 ≤ a + b - 1) (by omega : 0 ≤ b)
  have q := Int.ediv_le_self b (by omega : 0 ≤ a + b - 1)
  rw [Int.mul_comm] at e
  generalize (a + b - 1) / b * b = z at *
  exact ⟨p, by omega, by omega, by omega⟩
/-- What the law asks of CeilDiv's and Mod's answers. -/
def Low (a b q r : Int) : Prop :=
  (b < 1 ∧ q = 0 ∧ r = 0) ∨ (1000000000000 < b ∧ q = 0 ∧ r = 0) ∨
  (1 ≤ b ∧ b ≤ 1000000000000 ∧ 0 ≤ r ∧ r < b ∧
    ((a < 0 ∧ q = 0 ∧ (a.tmod b - r).tmod b = 0 ∧ -b < a.tmod b ∧ a.tmod b < b) ∨ (1000000000000 < a ∧ q = 0 ∧ a % b = r) ∨
     (0 ≤ a ∧ a ≤ 1000000000000 ∧ a % b = r ∧ 0 ≤ q ∧ q ≤ 2000000000000 ∧ a ≤ q * b ∧ q * b - a < b)))
theorem low (a b : Int) : Low a b (ceilV a b) (modV a b) := by
  unfold Low
  by_cases h1 : b < 1
  · exact Or.inl ⟨h1, ceilV_out (by omega), modV_out (by omega)⟩
  by_cases h2 : 1000000000000 < b
  · exact Or.inr (Or.inl ⟨h2, ceilV_out (by omega), modV_out (by omega)⟩)
  have hm : modV a b = a % b := modV_in (by omega) (by omega)
  have l := Int.emod_nonneg a (by omega : b ≠ 0)
  have u := Int.emod_lt_of_pos a (by omega : 0 < b)
  obtain ⟨z1, z2, z3⟩ := rem_zero (a := a) (b := b) (by omega)
  refine Or.inr (Or.inr ⟨by omega, by omega, by rw [hm]; exact l, by rw [hm]; exact u, ?_⟩)
  by_cases h3 : a < 0
  · exact Or.inl ⟨h3, ceilV_out (by omega), by rw [hm]; exact z1, z2, z3⟩
  by_cases h4 : 1000000000000 < a
  · exact Or.inr (Or.inl ⟨h4, ceilV_out (by omega), hm.symm⟩)
  · obtain ⟨f1, f2, f3, f4⟩ := ceil_fits (a := a) (b := b) (by omega) (by omega) (by omega) (by omega)
    rw [ceilV_in (by omega) (by omega) (by omega) (by omega)]
    exact Or.inr (Or.inr ⟨by omega, by omega, hm.symm, f1, f2, f3, f4⟩)
theorem ceil_any (a b : Int) (w : World) : Calls Tryd.prog 12 #[.int .i64 a, .int .i64 b] w fun e w' => ∃ q, q = ceilV a b ∧ e = .returned (.int .i64 q) ∧ w = w' :=
  (implCeil a b w).mono fun _ _ ⟨he, hw⟩ => ⟨_, rfl, he, hw⟩
theorem mod_any (a b : Int) (w : World) : Calls Tryd.prog 13 #[.int .i64 a, .int .i64 b] w fun e w' => ∃ r, r = modV a b ∧ e = .returned (.int .i64 r) ∧ w = w' :=
  (implMod a b w).mono fun _ _ ⟨he, hw⟩ => ⟨_, rfl, he, hw⟩
set_option maxRecDepth 100000 in
set_option maxHeartbeats 20000000 in
theorem law_integers (A : Option Addr) (n c : Nat) (w : World) (hc : Code w A n) (hV : Vars w) : Calls Tryd.prog 3 #[.slice A n c] w (True_ w) := by
  by_cases hn : n ≤ 1048576
  · have HV := Lib.hid hV
    have HC := Lib.hid hc
    clear hV hc
    go_enter Tryd.func3, Tryd.ntmps3
    go_wp2_with fail
    refine (big_no A n c _ hn).mono ?_
    rintro e w0 ⟨rfl, rfl⟩
    go_wp2_with fail
    refine (drawParseInt A n c _ HC.out hn).mono ?_
    rintro e w1 ⟨s, hs, rfl, hb1⟩
    go_wp2_with fail
    refine (parse_any s _ (by omega) (HV.out.below hb1)).mono ?_
    rintro e w2 ⟨np, kb, hB, rfl, hc2⟩
    have hb2 := below_on hb1 hc2
    clear hc2
    have HB := Lib.hid hB
    have hnp0 := hB.1
    have hnp1 := hB.2.1
    clear hB
    go_wp2_with fail
    refine (drawFormatInt A n c _ (HC.out.below hb2) hn).mono ?_
    rintro e w3 ⟨m, hm0, hm1, rfl, hc3⟩
    have hb3 := below_on hb2 hc3
    clear hc3
    unfold wide at hm0 hm1
    go_wp2_with fail
    refine (implFormatInt m _ (by omega) (by omega) (HV.out.below hb3).pow).mono ?_
    rintro e w4 ⟨rfl, hc4⟩
    have hb4 := below_on hb3 hc4
    clear hc4
    go_wp2_with fail
    refine (parse_again m _ (by omega) (by omega) (HV.out.below hb4)).mono ?_
    rintro e w5 ⟨k, fine, hA, rfl, hc5⟩
    have hb5 := below_on hb4 hc5
    clear hc5
    go_wp2_with fail
    refine (drawCeilDiv A n c _ (HC.out.below hb5) hn).mono ?_
    rintro e w6 ⟨a, b, ha0, ha1, hb0, hb1', rfl, hc6⟩
    have hb6 := below_on hb5 hc6
    clear hc6
    unfold wide at ha0 ha1 hb0 hb1'
    go_wp2_with fail
    refine (ceil_any a b _).mono ?_
    rintro e w7 ⟨q, hq, rfl, rfl⟩
    have HQ := Lib.hid hq
    clear hq
    go_wp2_with fail
    refine (mod_any a b _).mono ?_
    rintro e w8 ⟨r, hr, rfl, rfl⟩
    have hL := low a b
    rw [← HQ.out, ← hr] at hL
    clear hr HQ hb1 hb2 hb3 hb4 hb5
    rcases hA with ⟨hmA, hmB, rfl, rfl⟩ | ⟨hmA, rfl, rfl⟩ | ⟨hmA, rfl, rfl⟩
    all_goals
      rcases hL with ⟨hb, rfl, rfl⟩ | ⟨hb, rfl, rfl⟩ | ⟨hbA, hbB, hrA, hrB, ⟨haA, rfl, hx1, hx2, hx3⟩ | ⟨haA, rfl, hx1⟩ | ⟨haA, haB, hx1, hqA, hqB, hx2, hx3⟩⟩
    all_goals cases kb
    all_goals
      go_wp2_with (go_at_call 10; refine (implFormat_is np s _ (by omega) (by omega) (HV.out.below hb6).pow (HB.out.2.2 rfl)).mono ?_; rintro e w9 ⟨rfl, hc9⟩)
    all_goals go_ret
    all_goals first | exact ⟨ret_bool rfl, hb6⟩ | exact ⟨ret_bool rfl, below_on hb6 hc9⟩
  · go_enter Tryd.func3, Tryd.ntmps3
    go_wp2_with fail
    refine (big_yes A n c _ (by omega)).mono ?_
    rintro e w0 ⟨rfl, rfl⟩
    go_wp2_with fail
    go_ret
    exact ⟨rfl, Below.refl _ _⟩
end Go.Proofs.YtfbjoglekmclpaaDoor
