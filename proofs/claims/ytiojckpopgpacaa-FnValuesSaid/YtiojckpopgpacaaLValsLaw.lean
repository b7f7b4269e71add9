/- FnValues: numbers stay in their range; adding what is no number is broken. -/
import Derived.Test.YtiojckpopgpacaaLAdd
import Derived.Test.YtiojckpopgpacaaLNum
import Derived.Test.YtiojckpopgpacaaLEqVs
import Derived.Test.YtiojckpopgpacaaDraw4A
import Derived.Test.YtiojckpopgpacaaHelp
namespace Go.Proofs.Ytiojckpopgpacaa
open Go.RowKit
theorem addV_comm (a b : V) : addV b a = addV a b := by
  unfold addV
  by_cases h : a.kind = 0 ∧ b.kind = 0 ∧ (0 ≤ a.n ∧ a.n ≤ 999999) ∧ (0 ≤ b.n ∧ b.n ≤ 999999)
  · rw [if_pos h, if_pos ⟨h.2.1, h.1, h.2.2.2, h.2.2.1⟩, Int.add_comm]
  · rw [if_neg h, if_neg (fun h' => h ⟨h'.2.1, h'.1, h'.2.2.2, h'.2.2.1⟩)]
theorem intV_val (n e : Int) : isVal (intV n) e = true :=
  isVal_yes (Or.inl ⟨rfl, Int.emod_nonneg _ (by omega), by have := Int.emod_lt_of_pos n (show (0 : Int) < 1000000 by omega); show n % 1000000 ≤ 999999; omega⟩)
theorem addV_val (a b : V) (e : Int) : isVal (addV a b) e = true := by
  unfold addV
  split
  · exact intV_val _ _
  · exact isVal_yes (Or.inr (Or.inr ⟨rfl, rfl⟩))
theorem implIntVX (n : Int) (u : V) (w : World) (h : intV n = u) : Calls Try.prog 18 #[.int .i64 n] w (GivesV u w) := by
  subst h
  exact implIntV n w
theorem five {W w : World} {v a b x : V} {g0 g1 g2 g3 g4 : Nat} (h : Held W [(g4, [.int .i64 x.kind, .int .i64 x.n]), (g3, [.int .i64 x.kind, .int .i64 x.n]), (g2, [.int .i64 b.kind, .int .i64 b.n]), (g1, [.int .i64 a.kind, .int .i64 a.n]), (g0, [.int .i64 v.kind, .int .i64 v.n])] w) :
    (w.cell? ⟨g0, 0, none⟩ = some (.int .i64 v.kind) ∧ w.cell? ⟨g0, 1, none⟩ = some (.int .i64 v.n)) ∧ (w.cell? ⟨g1, 0, none⟩ = some (.int .i64 a.kind) ∧ w.cell? ⟨g1, 1, none⟩ = some (.int .i64 a.n)) ∧ (w.cell? ⟨g2, 0, none⟩ = some (.int .i64 b.kind) ∧ w.cell? ⟨g2, 1, none⟩ = some (.int .i64 b.n)) ∧ (w.cell? ⟨g3, 0, none⟩ = some (.int .i64 x.kind) ∧ w.cell? ⟨g3, 1, none⟩ = some (.int .i64 x.n)) ∧ (w.cell? ⟨g4, 0, none⟩ = some (.int .i64 x.kind) ∧ w.cell? ⟨g4, 1, none⟩ = some (.int .i64 x.n)) :=
  ⟨⟨h.at_ (g := g0) (i := 0) (cs := [.int .i64 v.kind, .int .i64 v.n]) (by simp) rfl, h.at_ (g := g0) (i := 1) (cs := [.int .i64 v.kind, .int .i64 v.n]) (by simp) rfl⟩, ⟨h.at_ (g := g1) (i := 0) (cs := [.int .i64 a.kind, .int .i64 a.n]) (by simp) rfl, h.at_ (g := g1) (i := 1) (cs := [.int .i64 a.kind, .int .i64 a.n]) (by simp) rfl⟩, ⟨h.at_ (g := g2) (i := 0) (cs := [.int .i64 b.kind, .int .i64 b.n]) (by simp) rfl, h.at_ (g := g2) (i := 1) (cs := [.int .i64 b.kind, .int .i64 b.n]) (by simp) rfl⟩, ⟨h.at_ (g := g3) (i := 0) (cs := [.int .i64 x.kind, .int .i64 x.n]) (by simp) rfl, h.at_ (g := g3) (i := 1) (cs := [.int .i64 x.kind, .int .i64 x.n]) (by simp) rfl⟩, ⟨h.at_ (g := g4) (i := 0) (cs := [.int .i64 x.kind, .int .i64 x.n]) (by simp) rfl, h.at_ (g := g4) (i := 1) (cs := [.int .i64 x.kind, .int .i64 x.n]) (by simp) rfl⟩⟩
set_option maxRecDepth 100000 in
set_option maxHeartbeats 4000000 in
theorem law_values (A : Option Addr) (n c : Nat) (W : World) (hC : Code W A n) : Calls Try.prog 3 #[.slice A n c] W (GivesBool true W) := by
  have HC := Lib.hid hC
  clear hC
  by_cases hn : n ≤ 1048576
  · go_enter Try.func3, Try.ntmps3
    go_wp2_with fail
    refine (big_no A n c _ hn).mono ?_
    rintro e w' ⟨rfl, rfl⟩
    go_wp2_with fail
    refine (drawVal A n c _ HC.out hn).mono ?_
    rintro e w1 ⟨v, k, rfl, hb⟩
    have h1 : Held W [(w1.heap.size, [.int .i64 v.kind, .int .i64 v.n])] (w1.alloc (.cells #[.int .i64 v.kind, .int .i64 v.n] 25)) := ((Held.start W).below hb).push #[.int .i64 v.kind, .int .i64 v.n] 25
    clear hb
    go_wp2_with fail
    refine (drawAdd A n c _ (HC.out.low h1.1) hn).mono ?_
    rintro e w2 ⟨a, b, rfl, hb⟩
    have h2 : Held W [(w2.heap.size + 1, [.int .i64 b.kind, .int .i64 b.n]), (w2.heap.size, [.int .i64 a.kind, .int .i64 a.n]), (w1.heap.size, [.int .i64 v.kind, .int .i64 v.n])] ((w2.alloc (.cells #[.int .i64 a.kind, .int .i64 a.n] 25)).alloc (.cells #[.int .i64 b.kind, .int .i64 b.n] 25)) := by
      have h := ((h1.below hb).push #[.int .i64 a.kind, .int .i64 a.n] 25).push #[.int .i64 b.kind, .int .i64 b.n] 25
      rw [World.size_alloc] at h
      exact h
    clear hb h1
    obtain ⟨x, hx⟩ : ∃ x : V, addV a b = x := ⟨_, rfl⟩
    have hx' := (addV_comm a b).trans hx
    have hx0 := addV_val a b 0
    rw [hx] at hx0
    have HX := Lib.hid hx
    have HX' := Lib.hid hx'
    have HX0 := Lib.hid hx0
    clear hx hx' hx0
    go_wp2_with fail
    refine (implAddX a b x _ HX.out).mono ?_
    rintro e w3 ⟨rfl, hb⟩
    have h3 : Held W [(w3.heap.size, [.int .i64 x.kind, .int .i64 x.n]), (w2.heap.size + 1, [.int .i64 b.kind, .int .i64 b.n]), (w2.heap.size, [.int .i64 a.kind, .int .i64 a.n]), (w1.heap.size, [.int .i64 v.kind, .int .i64 v.n])] (w3.alloc (.cells #[.int .i64 x.kind, .int .i64 x.n] 25)) := (h2.below hb).push #[.int .i64 x.kind, .int .i64 x.n] 25
    clear hb h2
    have c0 := h3.at_ (g := w2.heap.size + 1) (cs := [.int .i64 b.kind, .int .i64 b.n]) (i := 0) (by simp) rfl
    have c1 := h3.at_ (g := w2.heap.size + 1) (cs := [.int .i64 b.kind, .int .i64 b.n]) (i := 1) (by simp) rfl
    have c2 := h3.at_ (g := w2.heap.size) (cs := [.int .i64 a.kind, .int .i64 a.n]) (i := 0) (by simp) rfl
    have c3 := h3.at_ (g := w2.heap.size) (cs := [.int .i64 a.kind, .int .i64 a.n]) (i := 1) (by simp) rfl
    go_wp2_with fail
    refine (implAddX b a x _ HX'.out).mono ?_
    rintro e w4 ⟨rfl, hb⟩
    have h4 : Held W [(w4.heap.size, [.int .i64 x.kind, .int .i64 x.n]), (w3.heap.size, [.int .i64 x.kind, .int .i64 x.n]), (w2.heap.size + 1, [.int .i64 b.kind, .int .i64 b.n]), (w2.heap.size, [.int .i64 a.kind, .int .i64 a.n]), (w1.heap.size, [.int .i64 v.kind, .int .i64 v.n])] (w4.alloc (.cells #[.int .i64 x.kind, .int .i64 x.n] 25)) := (h3.below hb).push #[.int .i64 x.kind, .int .i64 x.n] 25
    clear hb h3 c0 c1 c2 c3
    go_wp2_with fail
    refine (drawAre A n c _ (HC.out.low h4.1) hn).mono ?_
    rintro e w5 ⟨A5, n5, c5, L5, k5, rfl, hR, hn5, hb⟩
    have hH := (h4.below hb).drew
    have R0 : Hid (FR layV w5.drew A5 n5 L5) := Lib.hid hR
    have hSS := five hH
    have HS := Lib.hid hSS
    clear hb h4 hR hSS
    obtain ⟨bv, hbv⟩ : ∃ y : Bool, isVal v k = y := ⟨_, rfl⟩
    obtain ⟨ba, hba⟩ : ∃ y : Bool, areVals L5 k5 = y := ⟨_, rfl⟩
    obtain ⟨u, hu⟩ : ∃ y : V, intV v.n = y := ⟨_, rfl⟩
    have hu0 := intV_val v.n 0
    rw [hu] at hu0
    have HV := Lib.hid hbv
    have HA := Lib.hid hba
    have HU := Lib.hid hu
    have HU0 := Lib.hid hu0
    have H7 : Hid (intV 7 = ⟨0, 7⟩) := Lib.hid rfl
    have HN7 : Hid (isNum ⟨0, 7⟩ 7 = true) := Lib.hid rfl
    have HE := Lib.hid (eqVals_same L5)
    clear hbv hba hu hu0
    go_wp2_with fail
    go_region_held3 (fun w' => (w'.cell? ⟨w1.heap.size, 0, none⟩ = some (.int .i64 v.kind) ∧ w'.cell? ⟨w1.heap.size, 1, none⟩ = some (.int .i64 v.n)) ∧ (w'.cell? ⟨w2.heap.size, 0, none⟩ = some (.int .i64 a.kind) ∧ w'.cell? ⟨w2.heap.size, 1, none⟩ = some (.int .i64 a.n)) ∧ (w'.cell? ⟨w2.heap.size + 1, 0, none⟩ = some (.int .i64 b.kind) ∧ w'.cell? ⟨w2.heap.size + 1, 1, none⟩ = some (.int .i64 b.n)) ∧ (w'.cell? ⟨w3.heap.size, 0, none⟩ = some (.int .i64 x.kind) ∧ w'.cell? ⟨w3.heap.size, 1, none⟩ = some (.int .i64 x.n)) ∧ (w'.cell? ⟨w4.heap.size, 0, none⟩ = some (.int .i64 x.kind) ∧ w'.cell? ⟨w4.heap.size, 1, none⟩ = some (.int .i64 x.n)))
      (first | with_reducible exact HS.out | with_reducible exact five (by assumption))
      (first
      | (go_at_call 16; (with_reducible refine (implIsValB v k bv _ HV.out).mono ?_); rintro e wq0 ⟨rfl, hb⟩
         have hH0 := Held.below (by assumption : Held W [(w4.heap.size, [.int .i64 x.kind, .int .i64 x.n]), (w3.heap.size, [.int .i64 x.kind, .int .i64 x.n]), (w2.heap.size + 1, [.int .i64 b.kind, .int .i64 b.n]), (w2.heap.size, [.int .i64 a.kind, .int .i64 a.n]), (w1.heap.size, [.int .i64 v.kind, .int .i64 v.n])] _) hb
         have R1 := Lib.hid (R0.out.below hb)
         clear hb)
      | (go_at_call 17; (with_reducible refine (specIsValB v k bv _ HV.out).mono ?_); rintro e wq1 ⟨rfl, hb⟩
         have hH1 := Held.below (by assumption : Held W [(w4.heap.size, [.int .i64 x.kind, .int .i64 x.n]), (w3.heap.size, [.int .i64 x.kind, .int .i64 x.n]), (w2.heap.size + 1, [.int .i64 b.kind, .int .i64 b.n]), (w2.heap.size, [.int .i64 a.kind, .int .i64 a.n]), (w1.heap.size, [.int .i64 v.kind, .int .i64 v.n])] _) hb
         have R2 := Lib.hid (R1.out.below hb)
         clear hb)
      | (go_at_call 16; (with_reducible refine (implIsValB x 0 true _ HX0.out).mono ?_); rintro e wq2 ⟨rfl, hb⟩
         have hH2 := Held.below (by assumption : Held W [(w4.heap.size, [.int .i64 x.kind, .int .i64 x.n]), (w3.heap.size, [.int .i64 x.kind, .int .i64 x.n]), (w2.heap.size + 1, [.int .i64 b.kind, .int .i64 b.n]), (w2.heap.size, [.int .i64 a.kind, .int .i64 a.n]), (w1.heap.size, [.int .i64 v.kind, .int .i64 v.n])] _) hb
         have R3 := Lib.hid (R2.out.below hb)
         clear hb)
      | (go_at_call 18; (with_reducible refine (implIntVX v.n u _ HU.out).mono ?_); rintro e wq3 ⟨rfl, hb⟩
         have hH3 := Held.below (by assumption : Held W [(w4.heap.size, [.int .i64 x.kind, .int .i64 x.n]), (w3.heap.size, [.int .i64 x.kind, .int .i64 x.n]), (w2.heap.size + 1, [.int .i64 b.kind, .int .i64 b.n]), (w2.heap.size, [.int .i64 a.kind, .int .i64 a.n]), (w1.heap.size, [.int .i64 v.kind, .int .i64 v.n])] _) hb
         have R4 := Lib.hid (R3.out.below hb)
         clear hb)
      | (go_at_call 16; (with_reducible refine (implIsValB u 0 true _ HU0.out).mono ?_); rintro e wq4 ⟨rfl, hb⟩
         have hH4 := Held.below (by assumption : Held W [(w4.heap.size, [.int .i64 x.kind, .int .i64 x.n]), (w3.heap.size, [.int .i64 x.kind, .int .i64 x.n]), (w2.heap.size + 1, [.int .i64 b.kind, .int .i64 b.n]), (w2.heap.size, [.int .i64 a.kind, .int .i64 a.n]), (w1.heap.size, [.int .i64 v.kind, .int .i64 v.n])] _) hb
         have R5 := Lib.hid (R4.out.below hb)
         clear hb)
      | (go_at_call 18; (with_reducible refine (implIntVX 7 ⟨0, 7⟩ _ H7.out).mono ?_); rintro e wq5 ⟨rfl, hb⟩
         have hH5 := Held.below (by assumption : Held W [(w4.heap.size, [.int .i64 x.kind, .int .i64 x.n]), (w3.heap.size, [.int .i64 x.kind, .int .i64 x.n]), (w2.heap.size + 1, [.int .i64 b.kind, .int .i64 b.n]), (w2.heap.size, [.int .i64 a.kind, .int .i64 a.n]), (w1.heap.size, [.int .i64 v.kind, .int .i64 v.n])] _) hb
         have R6 := Lib.hid (R5.out.below hb)
         clear hb)
      | (go_at_call 19; (with_reducible refine (implIsNumB ⟨0, 7⟩ 7 true _ HN7.out).mono ?_); rintro e wq6 ⟨rfl, hb⟩
         have hH6 := Held.below (by assumption : Held W [(w4.heap.size, [.int .i64 x.kind, .int .i64 x.n]), (w3.heap.size, [.int .i64 x.kind, .int .i64 x.n]), (w2.heap.size + 1, [.int .i64 b.kind, .int .i64 b.n]), (w2.heap.size, [.int .i64 a.kind, .int .i64 a.n]), (w1.heap.size, [.int .i64 v.kind, .int .i64 v.n])] _) hb
         have R7 := Lib.hid (R6.out.below hb)
         clear hb)
      | (go_at_call 20; (with_reducible refine (implAreVB A5 n5 c5 L5 k5 ba _ R7.out (by omega) HA.out).mono ?_); rintro e wq7 ⟨rfl, hb⟩
         have hH7 := Held.below (by assumption : Held W [(w4.heap.size, [.int .i64 x.kind, .int .i64 x.n]), (w3.heap.size, [.int .i64 x.kind, .int .i64 x.n]), (w2.heap.size + 1, [.int .i64 b.kind, .int .i64 b.n]), (w2.heap.size, [.int .i64 a.kind, .int .i64 a.n]), (w1.heap.size, [.int .i64 v.kind, .int .i64 v.n])] _) hb
         have R8 := Lib.hid (R7.out.below hb)
         clear hb)
      | (go_at_call 21; (with_reducible refine (specAreVB A5 n5 c5 L5 k5 ba _ R8.out (by omega) HA.out).mono ?_); rintro e wq8 ⟨rfl, hb⟩
         have hH8 := Held.below (by assumption : Held W [(w4.heap.size, [.int .i64 x.kind, .int .i64 x.n]), (w3.heap.size, [.int .i64 x.kind, .int .i64 x.n]), (w2.heap.size + 1, [.int .i64 b.kind, .int .i64 b.n]), (w2.heap.size, [.int .i64 a.kind, .int .i64 a.n]), (w1.heap.size, [.int .i64 v.kind, .int .i64 v.n])] _) hb
         have R9 := Lib.hid (R8.out.below hb)
         clear hb)
      | (go_at_call 22; (with_reducible refine (implEqVSB A5 A5 n5 n5 c5 c5 L5 L5 true _ R9.out R9.out (by omega) HE.out).mono ?_); rintro e wq9 ⟨rfl, hb⟩
         have hH9 := Held.below (by assumption : Held W [(w4.heap.size, [.int .i64 x.kind, .int .i64 x.n]), (w3.heap.size, [.int .i64 x.kind, .int .i64 x.n]), (w2.heap.size + 1, [.int .i64 b.kind, .int .i64 b.n]), (w2.heap.size, [.int .i64 a.kind, .int .i64 a.n]), (w1.heap.size, [.int .i64 v.kind, .int .i64 v.n])] _) hb
         have R10 := Lib.hid (R9.out.below hb)
         clear hb)
      | (go_at_call 23; (with_reducible refine (specAddX a b x _ HX.out).mono ?_); rintro e wq10 ⟨rfl, hb⟩
         have hH10 := Held.below (by assumption : Held W [(w4.heap.size, [.int .i64 x.kind, .int .i64 x.n]), (w3.heap.size, [.int .i64 x.kind, .int .i64 x.n]), (w2.heap.size + 1, [.int .i64 b.kind, .int .i64 b.n]), (w2.heap.size, [.int .i64 a.kind, .int .i64 a.n]), (w1.heap.size, [.int .i64 v.kind, .int .i64 v.n])] _) hb
         have R11 := Lib.hid (R10.out.below hb)
         clear hb))
    all_goals (
      go_wp2_with fail
      go_ret
      exact GivesBool.ret hH10.1)
  · go_enter Try.func3, Try.ntmps3
    go_wp2_with fail
    refine (big_yes A n c _ hn).mono ?_
    rintro e w' ⟨rfl, rfl⟩
    go_wp2_with fail
    go_ret
    exact GivesBool.ret (Below.refl _ _)
end Go.Proofs.Ytiojckpopgpacaa
