/- Words read: an operation, a number, both sides. -/
import Derived.Test.YthgcodbcafpmhaaDoorSpl
import Derived.Test.YthgcodbcafpmhaaDoorFmtI
import Derived.Test.YthgcodbcafpmhaaDoorParse
namespace Go.Proofs.YthgcodbcafpmhaaDoor
open Go.RowKit Go.Lib
set_option linter.unusedVariables false
set_option linter.unusedSimpArgs false
theorem str_ne {a b : ByteArray} (h : ¬ a = b) : (a.toList == b.toList) = false := by
  rw [beq_eq_false_iff_ne, ByteArray.toList_eq, ByteArray.toList_eq]
  exact fun e => h (bytes_eq e)
theorem str_ne' {a b : ByteArray} (h : ¬ a = b) : ¬ a.toList = b.toList := by
  rw [ByteArray.toList_eq, ByteArray.toList_eq]
  exact fun e => h (bytes_eq e)
/-! ### The operation's name -/
theorem opW_yes {w : List UInt8} {k : Nat} (h0 : 1 ≤ k) (h1 : k ≤ 10) (hno : ∀ j : Nat, 1 ≤ j → j < k → nameW (opName j) ≠ w) (h : nameW (opName k) = w) : (k : Int) = opW w := by
  subst h
  exact (op_op ⟨by omega, by omega⟩).symm
theorem opW_no {w : List UInt8} (hno : ∀ j : Nat, 1 ≤ j → j < 11 → nameW (opName j) ≠ w) : 0 = opW w := by
  have h1 : nameW (opName 1) ≠ w := hno 1 (by omega) (by omega)
  have h2 : nameW (opName 2) ≠ w := hno 2 (by omega) (by omega)
  have h3 : nameW (opName 3) ≠ w := hno 3 (by omega) (by omega)
  have h4 : nameW (opName 4) ≠ w := hno 4 (by omega) (by omega)
  have h5 : nameW (opName 5) ≠ w := hno 5 (by omega) (by omega)
  have h6 : nameW (opName 6) ≠ w := hno 6 (by omega) (by omega)
  have h7 : nameW (opName 7) ≠ w := hno 7 (by omega) (by omega)
  have h8 : nameW (opName 8) ≠ w := hno 8 (by omega) (by omega)
  have h9 : nameW (opName 9) ≠ w := hno 9 (by omega) (by omega)
  have h10 : nameW (opName 10) ≠ w := hno 10 (by omega) (by omega)
  unfold opW
  rw [if_neg (Ne.symm h1), if_neg (Ne.symm h2), if_neg (Ne.symm h3), if_neg (Ne.symm h4), if_neg (Ne.symm h5), if_neg (Ne.symm h6), if_neg (Ne.symm h7), if_neg (Ne.symm h8), if_neg (Ne.symm h9), if_neg (Ne.symm h10)]
set_option maxHeartbeats 1000000 in
theorem specOpW (s : ByteArray) (w : World) : Calls Tryd.prog 20 #[.string s] w (GivesInt (opW s.data.toList) w) := by
  go_enter Tryd.func20, Tryd.ntmps20
  go_wp2_with fail
  go_loopw [3] (fun kv wr => ∃ k : Nat, 1 ≤ k ∧ k ≤ 11 ∧ kv = .int .i64 k ∧ (∀ j : Nat, 1 ≤ j → j < k → nameW (opName j) ≠ s.data.toList) ∧ Below w.heap.size w wr) (fun kv _ => 11 - (RowKit.intOf kv).toNat)
  case atStart => exact ⟨1, by omega, by omega, rfl, fun j h1 h2 => by omega, Below.refl _ _⟩
  case round =>
    obtain ⟨k, hk1, hk2, rfl, hno, hb⟩ := hrel
    have HNO := Lib.hid hno
    have HB := Lib.hid hb
    clear hno hb
    by_cases hle : k ≤ 10
    · by_cases he : opName (k : Int) = s
      · have HN := Lib.hid (opW_yes hk1 hle HNO.out (by rw [he]; rfl))
        have heq : (opName (k : Int)).toList = s.toList := by rw [he]
        have heb : ((opName (k : Int)).toList == s.toList) = true := by rw [he]; simp
        clear he
        go_wp2_with ((with_reducible refine (specOp _ _).mono ?_); rintro e w2 ⟨rfl, hb2⟩; have HB2 := Lib.hid (HB.out.trans (hb2.mono HB.out.size)); clear hb2)
        go_ret
        exact GivesInt.ret HN.out HB2.out
      · have HN : Hid (∀ j : Nat, 1 ≤ j → j < k + 1 → nameW (opName j) ≠ s.data.toList) := Lib.hid (fun j h1 h2 => by
          by_cases hj : j = k
          · subst hj; exact fun e => he (bytes_eq e)
          · exact HNO.out j h1 (by omega))
        have h1 := str_ne he
        have h2 := str_ne' he
        clear he
        go_wp2_with ((with_reducible refine (specOp _ _).mono ?_); rintro e w2 ⟨rfl, hb2⟩; have HB2 := Lib.hid (HB.out.trans (hb2.mono HB.out.size)); clear hb2)
        go_roundw
        case rel => exact ⟨k + 1, by omega, by omega, by go_num, HN.out, HB2.out⟩
        case measure => simp [RowKit.intOf]; omega
    · have HN := Lib.hid (opW_no (w := s.data.toList) (fun j h1 h2 => HNO.out j h1 (by omega)))
      go_wp2_with fail
      go_ret
      exact GivesInt.ret HN.out HB.out
set_option maxHeartbeats 1000000 in
theorem implOpW (s : ByteArray) (w : World) : Calls Tryd.prog 31 #[.string s] w (GivesInt (opW s.data.toList) w) := by
  go_enter Tryd.func31, Tryd.ntmps31
  go_wp2_with fail
  go_loopw [3] (fun kv wr => ∃ k : Nat, 1 ≤ k ∧ k ≤ 11 ∧ kv = .int .i64 k ∧ (∀ j : Nat, 1 ≤ j → j < k → nameW (opName j) ≠ s.data.toList) ∧ Below w.heap.size w wr) (fun kv _ => 11 - (RowKit.intOf kv).toNat)
  case atStart => exact ⟨1, by omega, by omega, rfl, fun j h1 h2 => by omega, Below.refl _ _⟩
  case round =>
    obtain ⟨k, hk1, hk2, rfl, hno, hb⟩ := hrel
    have HNO := Lib.hid hno
    have HB := Lib.hid hb
    clear hno hb
    by_cases hle : k ≤ 10
    · by_cases he : opName (k : Int) = s
      · have HN := Lib.hid (opW_yes hk1 hle HNO.out (by rw [he]; rfl))
        have heq : (opName (k : Int)).toList = s.toList := by rw [he]
        have heb : ((opName (k : Int)).toList == s.toList) = true := by rw [he]; simp
        clear he
        go_wp2_with ((with_reducible refine (implOp _ _).mono ?_); rintro e w2 ⟨rfl, hb2⟩; have HB2 := Lib.hid (HB.out.trans (hb2.mono HB.out.size)); clear hb2)
        go_ret
        exact GivesInt.ret HN.out HB2.out
      · have HN : Hid (∀ j : Nat, 1 ≤ j → j < k + 1 → nameW (opName j) ≠ s.data.toList) := Lib.hid (fun j h1 h2 => by
          by_cases hj : j = k
          · subst hj; exact fun e => he (bytes_eq e)
          · exact HNO.out j h1 (by omega))
        have h1 := str_ne he
        have h2 := str_ne' he
        clear he
        go_wp2_with ((with_reducible refine (implOp _ _).mono ?_); rintro e w2 ⟨rfl, hb2⟩; have HB2 := Lib.hid (HB.out.trans (hb2.mono HB.out.size)); clear hb2)
        go_roundw
        case rel => exact ⟨k + 1, by omega, by omega, by go_num, HN.out, HB2.out⟩
        case measure => simp [RowKit.intOf]; omega
    · have HN := Lib.hid (opW_no (w := s.data.toList) (fun j h1 h2 => HNO.out j h1 (by omega)))
      go_wp2_with fail
      go_ret
      exact GivesInt.ret HN.out HB.out
/-! ### A word, a number -/
theorem strW_yes {ws : List (List UInt8)} {i : Nat} {x : List UInt8} (h : ws[i]? = some x) : toB x = strW ws i := by rw [strW, h]; rfl
theorem strW_no {ws : List (List UInt8)} {i : Nat} (h : ws[i]? = none) : (⟨#[]⟩ : ByteArray) = strW ws i := by rw [strW, h]
theorem implWord (ws : List (List UInt8)) (A : Option Addr) (n c i : Nat) (w : World) (h : Words w A n ws) (hi : i ≤ 9223372036854775807) (hn : n ≤ 9223372036854775807) : Calls Tryd.prog 32 #[.slice A n c, .int .i64 i] w (SameS (strW ws i) w) := by
  by_cases hlt : i < n
  · obtain ⟨b, off, x, rfl, hbw, hx, hcell⟩ := h.at_ hlt
    have HX := Lib.hid (strW_yes hx)
    have h0 : (0 : Int) ≤ i := by omega
    have h1 : (i : Int) < n := by omega
    clear hx h
    go_enter Tryd.func32, Tryd.ntmps32
    go_wp2
    go_ret
    exact SameS.ret HX.out
  · have HX := Lib.hid (strW_no (ws := ws) (i := i) (List.getElem?_eq_none (by rw [h.1]; omega)))
    clear h
    go_enter Tryd.func32, Tryd.ntmps32
    go_wp2
    go_ret
    exact SameS.ret HX.out
def numB (s : ByteArray) : Int := if pok s.data.toList then (dval s.data.toList : Int) else -1
theorem numB_yes {s : ByteArray} (h : pok s.data.toList = true) : (pval s.data.toList : Int) = numB s := by rw [numB, if_pos h, pval_yes h]
theorem numB_no {s : ByteArray} (h : pok s.data.toList = false) : -1 = numB s := by rw [numB, h]; rfl
set_option maxHeartbeats 1000000 in
theorem implNumB (s : ByteArray) (w : World) (hs : s.size ≤ 140737488351232) (hV : Vars w) : Calls Tryd.prog 33 #[.string s] w (GivesInt (numB s) w) := by
  have HV := Lib.hid hV
  clear hV
  obtain ⟨v, hv⟩ : ∃ v, pok s.data.toList = v := ⟨_, rfl⟩
  cases v with
  | true =>
    have HN := Lib.hid (numB_yes hv)
    have HP := Lib.hid hv
    clear hv
    go_enter Tryd.func33, Tryd.ntmps33
    go_wp2_with fail
    refine (implParse s _ hs HV.out).mono ?_
    rintro e w1 ⟨rfl, hb⟩
    have HB := Lib.hid hb
    rw [HP.out]
    clear hb
    go_wp2_with fail
    go_ret
    exact GivesInt.ret HN.out HB.out
  | false =>
    have HN := Lib.hid (numB_no hv)
    have HP := Lib.hid hv
    clear hv
    go_enter Tryd.func33, Tryd.ntmps33
    go_wp2_with fail
    refine (implParse s _ hs HV.out).mono ?_
    rintro e w1 ⟨rfl, hb⟩
    have HB := Lib.hid hb
    rw [HP.out]
    clear hb
    go_wp2_with fail
    go_ret
    exact GivesInt.ret HN.out HB.out
theorem numW_at {ws : List (List UInt8)} {i : Nat} {x : List UInt8} (h : ws[i]? = some x) : numW ws i = numB (toB x) := by rw [numW, h]; rfl
theorem numW_off {ws : List (List UInt8)} {i : Nat} (h : ws[i]? = none) : -1 = numW ws i := by rw [numW, h]
set_option maxHeartbeats 1000000 in
theorem specNumW (ws : List (List UInt8)) (A : Option Addr) (n c i : Nat) (w : World) (h : Words w A n ws) (hi : i ≤ 9223372036854775807) (hn : n ≤ 9223372036854775807) (hs : ∀ x ∈ ws, x.length ≤ 140737488351232) : Calls Tryd.prog 21 #[.slice A n c, .int .i64 i] w (GivesInt (numW ws i) w) := by
  by_cases hlt : i < n
  · obtain ⟨b, off, x, rfl, hbw, hx, hcell⟩ := h.at_ hlt
    have HX := Lib.hid (numW_at hx)
    have hxs : (toB x).size ≤ 140737488351232 := by have h1 := hs x (List.mem_of_getElem? hx); show x.toArray.size ≤ _; rw [List.size_toArray]; exact h1
    have h0 : (0 : Int) ≤ i := by omega
    have h1 : (i : Int) < n := by omega
    clear hx h hs
    obtain ⟨v, hv⟩ : ∃ v, pok (toB x).data.toList = v := ⟨_, rfl⟩
    cases v with
    | true =>
      have HN := Lib.hid (numB_yes hv)
      have HP := Lib.hid hv
      clear hv
      go_enter Tryd.func21, Tryd.ntmps21
      go_wp2_with fail
      refine (specParse (toB x) _ hxs).mono ?_
      rintro e w1 ⟨rfl, hb⟩
      have HB := Lib.hid hb
      rw [HP.out]
      clear hb
      go_wp2_with fail
      go_ret
      exact GivesInt.ret (HN.out.trans HX.out.symm) HB.out
    | false =>
      have HN := Lib.hid (numB_no hv)
      have HP := Lib.hid hv
      clear hv
      go_enter Tryd.func21, Tryd.ntmps21
      go_wp2_with fail
      refine (specParse (toB x) _ hxs).mono ?_
      rintro e w1 ⟨rfl, hb⟩
      have HB := Lib.hid hb
      rw [HP.out]
      clear hb
      go_wp2_with fail
      go_ret
      exact GivesInt.ret (HN.out.trans HX.out.symm) HB.out
  · have HX := Lib.hid (numW_off (ws := ws) (i := i) (List.getElem?_eq_none (by rw [h.1]; omega)))
    clear h hs
    go_enter Tryd.func21, Tryd.ntmps21
    go_wp2
    go_ret
    exact GivesInt.ret HX.out (Below.refl _ _)
end Go.Proofs.YthgcodbcafpmhaaDoor
