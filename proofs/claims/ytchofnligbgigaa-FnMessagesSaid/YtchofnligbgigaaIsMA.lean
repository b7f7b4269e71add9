/- Chapter 11: what the program asks of arguments, tags and targets. -/
import Derived.Test.YtchofnligbgigaaIsW
import Derived.LoopTactic
import Derived.Lib.Hide
import Derived.Deep.QuietTactic
import Derived.BigQuiet
import Derived.Deep.RegionWith
import Derived.Handy
namespace Go.Proofs.Ytchofnligbgigaa
open Go.RowKit
set_option linter.unusedVariables false
set_option linter.unusedSimpArgs false
theorem liesNil (w : World) : Lies w (.l []) [.slice none 0 0] := by rw [Lies]; exact ⟨none, 0, 0, rfl, rfl, Or.inl rfl⟩
/-- No valid wire. -/
def noW (d : Dat) : Bool := !wireD d
theorem implNoW (k n : Int) (w : World) : Calls Try.prog 87 #[.agg #[.int .i64 k, .int .i64 n]] w (GivesBool (!wireB k n) w) := by
  have HB0 : Hid (Below w.heap.size w (w.alloc (.cells #[.int .i64 k, .int .i64 n] 26))) := Lib.hid (by go_grown)
  go_enter Try.func87, Try.ntmps87
  go_wp2_with fail
  refine (implIsW k n _).mono ?_
  rintro e w1 ⟨rfl, hb⟩
  have HB := Lib.hid (HB0.out.trans (hb.mono HB0.out.size))
  clear hb
  go_wp2_with fail
  go_ret
  exact GivesBool.ret HB.out
set_option maxHeartbeats 2000000 in
theorem idxW (L : List Dat) (A : Option Addr) (n c : Nat) (w : World) (h : Lies w (.l L) [.slice A n c]) (ht : ∀ x ∈ L, Has tyWire x) (hn : n ≤ 1099511627776) :
    Calls Try.prog 89 #[.slice A n c, .func (.func 87) #[] #[]] w (GivesInt (idx noW L) w) := by
  have H := Lib.hid h
  have HT := Lib.hid ht
  clear h ht
  go_enter Try.func89, Try.ntmps89
  go_wp2
  go_loopw [8] (fun iv wr => ∃ i : Nat, i ≤ n ∧ iv = .int .i64 i ∧ (∀ (j : Nat) (e : Dat), j < i → L[j]? = some e → noW e = false) ∧ Below w.heap.size w wr) (fun iv _ => n - (intOf iv).toNat)
  case atStart => exact ⟨0, Nat.zero_le _, rfl, fun j e hj => by omega, Below.refl _ _⟩
  case round =>
    obtain ⟨i, hin, rfl, hno, hb0⟩ := hrel
    have HNO := Lib.hid hno
    have HB := Lib.hid hb0
    clear hno hb0
    by_cases hlt : i < n
    · obtain ⟨b, off, d, xs, rfl, hbw, hzi, hlie, hlen, hcell⟩ := (H.out.below HB.out).elem (fun x hx => (HT.out x hx).width) hlt
      obtain ⟨f0, f1, hd, rfl⟩ := invWire (HT.out d (List.mem_of_getElem? hzi)) hlie
      have r0 : wr.cell? ⟨b, off + i * 2, none⟩ = some (.int .i64 f0) := hcell 0 _ rfl
      have r1 : wr.cell? ⟨b, off + i * 2 + 1, none⟩ = some (.int .i64 f1) := hcell 1 _ rfl
      have HZ := Lib.hid hzi
      have HD := Lib.hid hd
      clear hzi hcell hlie hd
      obtain ⟨v, hv⟩ : ∃ v, (!wireB f0 f1) = v := ⟨_, rfl⟩
      have HV : Hid (noW d = v) := Lib.hid (by rw [HD.out]; exact hv)
      have HV2 := Lib.hid hv
      clear hv
      cases v with
      | true =>
        have HN := Lib.hid (idx_at HNO.out HZ.out HV.out)
        go_wp2_with fail
        refine (implNoW f0 f1 _).mono ?_
        rintro e w2 ⟨rfl, hb⟩
        rw [HV2.out]
        have HB2 := Lib.hid (HB.out.trans (hb.mono HB.out.size))
        clear hb
        go_wp2_with fail
        go_ret
        exact GivesInt.ret HN.out HB2.out
      | false =>
        have HN := Lib.hid (no_next HNO.out HZ.out HV.out)
        go_wp2_with fail
        refine (implNoW f0 f1 _).mono ?_
        rintro e w2 ⟨rfl, hb⟩
        rw [HV2.out]
        have HB2 := Lib.hid (HB.out.trans (hb.mono HB.out.size))
        clear hb
        go_wp2_with fail
        go_roundw
        case rel => exact ⟨i + 1, by omega, by go_num, HN.out, HB2.out⟩
        case measure => (simp [intOf]; try omega)
    · obtain rfl : i = n := by omega
      have HN : Hid (-1 = idx noW L) := Lib.hid (idx_none (fun j e he => HNO.out j e (by have h1 := (List.getElem?_eq_some_iff.1 he).1; have h2 := H.out.count; omega) he))
      go_wp2_with fail
      go_ret
      exact GivesInt.ret HN.out HB.out
theorem contW (L : List Dat) (A : Option Addr) (n c : Nat) (w : World) (h : Lies w (.l L) [.slice A n c]) (ht : ∀ x ∈ L, Has tyWire x) (hn : n ≤ 1099511627776) :
    Calls Try.prog 86 #[.slice A n c, .func (.func 87) #[] #[]] w (GivesBool (L.any noW) w) := by
  have HI : Hid (decide (0 ≤ idx noW L) = L.any noW) := Lib.hid (idx_any noW L)
  have H := Lib.hid h
  clear h
  go_enter Try.func86, Try.ntmps86
  go_wp2_with fail
  refine (idxW L A n c _ H.out ht hn).mono ?_
  rintro e w1 ⟨rfl, hb⟩
  have HB := Lib.hid hb
  clear hb
  generalize idx noW L = z at *
  go_wp2_with fail
  go_ret
  exact GivesBool.of HI.out HB.out
theorem any_noW (L : List Dat) : (!L.any noW) = L.all wireD := by
  induction L with
  | nil => rfl
  | cons d L ih => rw [List.any_cons, List.all_cons, Bool.not_or, ih]; simp [noW]
theorem implArgs (L : List Dat) (A : Option Addr) (n c : Nat) (w : World) (h : Lies w (.l L) [.slice A n c]) (ht : ∀ x ∈ L, Has tyWire x) (hn : n ≤ 1099511627776) :
    Calls Try.prog 80 #[.slice A n c] w (GivesBool (argsB L) w) := by
  have hc := h.count
  have H := Lib.hid h
  clear h
  by_cases h2 : n ≤ 2
  · obtain ⟨v, hv⟩ : ∃ v, L.any noW = v := ⟨_, rfl⟩
    have HN : Hid ((!v) = argsB L) := Lib.hid (by rw [argsB, ← any_noW, hv, decide_eq_true (by omega), Bool.true_and])
    have HV := Lib.hid hv
    clear hv hc
    go_enter Try.func80, Try.ntmps80
    go_wp2_with fail
    refine (contW L A n c _ H.out ht hn).mono ?_
    rintro e w1 ⟨rfl, hb⟩
    rw [HV.out]
    have HB := Lib.hid hb
    clear hb
    go_wp2_with fail
    go_ret
    exact GivesBool.of HN.out HB.out
  · have HN : Hid (false = argsB L) := Lib.hid (by rw [argsB, decide_eq_false (by omega), Bool.false_and])
    clear hc
    go_enter Try.func80, Try.ntmps80
    go_wp2_with fail
    go_ret
    exact GivesBool.of HN.out (Below.refl _ _)
set_option maxRecDepth 100000 in
set_option maxHeartbeats 4000000 in
theorem implTag0 (f8_0 f8_1 f8_2 : Int) (w : World) : Calls Try.prog 81 #[.agg #[.int .i64 f8_0, .int .i64 f8_1, .int .i64 f8_2]] w (GivesBool ((oneB f8_0) && (numB f8_1) && (oneB f8_2)) w) := by
  obtain ⟨V, hV⟩ : ∃ V, ((oneB f8_0) && (numB f8_1) && (oneB f8_2)) = V := ⟨_, rfl⟩
  rw [hV]
  have HV := Lib.hid hV
  clear hV
  have X := ((Held.start w).push #[.int .i64 f8_0, .int .i64 f8_1, .int .i64 f8_2] 28)
  replace X := Lib.hid X
  rcases h0 : (oneB f8_0) with _ | _
  · have H0 := Lib.hid h0
    have HN : Hid (false = V) := Lib.hid (by rw [← HV.out]; simp only [H0.out, Bool.true_and, Bool.false_and])
    clear h0
    go_enter Try.func81, Try.ntmps81
    go_wp2_with fail
    refine (implOne f8_0 _).mono ?_
    rintro e w0 ⟨rfl, rfl⟩
    rw [H0.out]
    go_wp2_with fail
    go_ret
    exact GivesBool.of HN.out X.out.1
  · have H0 := Lib.hid h0
    clear h0
    rcases h1 : (numB f8_1) with _ | _
    · have H1 := Lib.hid h1
      have HN : Hid (false = V) := Lib.hid (by rw [← HV.out]; simp only [H0.out, H1.out, Bool.true_and, Bool.false_and])
      clear h1
      go_enter Try.func81, Try.ntmps81
      go_wp2_with fail
      refine (implOne f8_0 _).mono ?_
      rintro e w0 ⟨rfl, rfl⟩
      rw [H0.out]
      go_wp2_with fail
      refine (implInR f8_1 0 999999 _).mono ?_
      rintro e w1 ⟨rfl, rfl⟩
      rw [show inR f8_1 0 999999 = _ from H1.out]
      go_wp2_with fail
      go_ret
      exact GivesBool.of HN.out X.out.1
    · have H1 := Lib.hid h1
      clear h1
      obtain ⟨b2, h2⟩ : ∃ b2, (oneB f8_2) = b2 := ⟨_, rfl⟩
      have H2 := Lib.hid h2
      have HN : Hid (b2 = V) := Lib.hid (by rw [← HV.out]; simp only [H0.out, H1.out, H2.out, Bool.true_and])
      clear h2
      go_enter Try.func81, Try.ntmps81
      go_wp2_with fail
      refine (implOne f8_0 _).mono ?_
      rintro e w0 ⟨rfl, rfl⟩
      rw [H0.out]
      go_wp2_with fail
      refine (implInR f8_1 0 999999 _).mono ?_
      rintro e w1 ⟨rfl, rfl⟩
      rw [show inR f8_1 0 999999 = _ from H1.out]
      go_wp2_with fail
      refine (implOne f8_2 _).mono ?_
      rintro e w2 ⟨rfl, rfl⟩
      rw [H2.out]
      go_wp2_with fail
      go_ret
      exact GivesBool.of HN.out X.out.1
theorem implTag (f8_0 f8_1 f8_2 : Int) (w : World) : Calls Try.prog 81 #[.agg #[.int .i64 f8_0, .int .i64 f8_1, .int .i64 f8_2]] w (GivesBool (tagB f8_0 f8_1 f8_2) w) := implTag0 f8_0 f8_1 f8_2 w
set_option maxHeartbeats 4000000 in
theorem implTo (f0 : Int) (f1 : Int) (f2 : Int) (f3 : Int) (f4 : ByteArray) (L5 : List Dat) (A5 : Option Addr) (n5 c5 : Nat) (f6_0 : Int) (f6_1 : Int) (f7 : Int) (f8_0 : Int) (f8_1 : Int) (f8_2 : Int) (w : World) : Calls Try.prog 78 #[.agg #[.int .i64 f0, .int .i64 f1, .int .i64 f2, .int .i64 f3, .string f4, .slice A5 n5 c5, .int .i64 f6_0, .int .i64 f6_1, .int .i64 f7, .int .i64 f8_0, .int .i64 f8_1, .int .i64 f8_2]] w (GivesBool (oneTo f1 f2) w) := by
  have X := (Held.start w).push #[.int .i64 f0, .int .i64 f1, .int .i64 f2, .int .i64 f3, .string f4, .slice A5 n5 c5, .int .i64 f6_0, .int .i64 f6_1, .int .i64 f7, .int .i64 f8_0, .int .i64 f8_1, .int .i64 f8_2] 30
  replace X := Lib.hid X
  by_cases e1 : f1 = 0
  · subst e1
    have HN : Hid (oneB f2 = oneTo 0 f2) := Lib.hid rfl
    go_enter Try.func78, Try.ntmps78
    go_wp2_with fail
    refine (implOne f2 _).mono ?_
    rintro e w1 ⟨rfl, rfl⟩
    go_wp2_with fail
    go_ret
    exact GivesBool.of HN.out X.out.1
  · have hb1 : (f1 == 0) = false := by simpa using e1
    rcases h1 : oneB f1 with _ | _
    · have HN : Hid (false = oneTo f1 f2) := Lib.hid (by rw [oneTo, if_neg e1, h1]; rfl)
      have H1 := Lib.hid h1
      clear h1
      go_enter Try.func78, Try.ntmps78
      go_wp2_with fail
      refine (implOne f1 _).mono ?_
      rintro e w1 ⟨rfl, rfl⟩
      rw [H1.out]
      go_wp2_with fail
      go_ret
      exact GivesBool.of HN.out X.out.1
    · have HN : Hid ((f2 == 0) = oneTo f1 f2) := Lib.hid (by rw [oneTo, if_neg e1, h1, Bool.true_and]; rfl)
      have H1 := Lib.hid h1
      clear h1
      go_enter Try.func78, Try.ntmps78
      go_wp2_with fail
      refine (implOne f1 _).mono ?_
      rintro e w1 ⟨rfl, rfl⟩
      rw [H1.out]
      go_wp2_with fail
      go_ret
      exact GivesBool.of HN.out X.out.1
end Go.Proofs.Ytchofnligbgigaa
