/- Chapter 11: the program's IsMessage. -/
import Derived.Test.YtchofnligbgigaaIsMA
import Derived.Test.YtchofnligbgigaaEqM
import Derived.Test.YtchofnligbgigaaLawM0
import Derived.LoopTactic
import Derived.Lib.Hide
import Derived.Deep.QuietTactic
import Derived.BigQuiet
import Derived.Deep.RegionWith
import Derived.Handy
namespace Go.Proofs.Ytchofnligbgigaa
open Go.RowKit
set_option linter.unusedVariables false
set_option linter.unusedSimpArgs false
set_option maxRecDepth 100000 in
set_option maxHeartbeats 16000000 in
theorem implCall (f0 : Int) (f1 : Int) (f2 : Int) (f3 : Int) (f4 : ByteArray) (L5 : List Dat) (A5 : Option Addr) (n5 c5 : Nat) (f6_0 : Int) (f6_1 : Int) (f7 : Int) (f8_0 : Int) (f8_1 : Int) (f8_2 : Int) (w : World) (hl5 : Lies w (.l L5) [.slice A5 n5 c5]) (ht5 : ∀ x ∈ L5, Has tyWire x) (hn5 : n5 ≤ 1099511627776) : Calls Try.prog 50 #[.agg #[.int .i64 f0, .int .i64 f1, .int .i64 f2, .int .i64 f3, .string f4, .slice A5 n5 c5, .int .i64 f6_0, .int .i64 f6_1, .int .i64 f7, .int .i64 f8_0, .int .i64 f8_1, .int .i64 f8_2]] w (GivesBool ((zz f6_0 f6_1 && decide (f7 = 0)) && (oneTo f1 f2) && (oneB f3) && (isName f4) && (argsB L5) && (tagB f8_0 f8_1 f8_2)) w) := by
  obtain ⟨V, hV⟩ : ∃ V, ((zz f6_0 f6_1 && decide (f7 = 0)) && (oneTo f1 f2) && (oneB f3) && (isName f4) && (argsB L5) && (tagB f8_0 f8_1 f8_2)) = V := ⟨_, rfl⟩
  rw [hV]
  have HV := Lib.hid hV
  clear hV
  have HL5 := Lib.hid hl5
  have HT5 := Lib.hid ht5
  clear hl5 ht5
  have X := (((Held.start w).push #[.int .i64 f0, .int .i64 f1, .int .i64 f2, .int .i64 f3, .string f4, .slice A5 n5 c5, .int .i64 f6_0, .int .i64 f6_1, .int .i64 f7, .int .i64 f8_0, .int .i64 f8_1, .int .i64 f8_2] 30).push #[.int .i64 f0, .int .i64 f1, .int .i64 f2, .int .i64 f3, .string f4, .slice A5 n5 c5, .int .i64 0, .int .i64 0, .int .i64 0, .int .i64 f8_0, .int .i64 f8_1, .int .i64 f8_2] 30)
  simp only [World.size_alloc] at X
  replace X := Lib.hid X
  rcases h0 : (zz f6_0 f6_1 && decide (f7 = 0)) with _ | _
  · have H0 := Lib.hid h0
    have HN : Hid (false = V) := Lib.hid (by rw [← HV.out]; simp only [H0.out, Bool.true_and, Bool.false_and])
    clear h0
    go_enter Try.func50, Try.ntmps50
    go_wp2_with fail
    refine (implEqMsg f0 f1 f2 f3 f4 L5 A5 n5 c5 f6_0 f6_1 f7 f8_0 f8_1 f8_2 f0 f1 f2 f3 f4 L5 A5 n5 c5 0 0 0 f8_0 f8_1 f8_2 _ (HL5.out.below X.out.1) (HL5.out.below X.out.1) HT5.out HT5.out hn5).mono ?_
    rintro e w0 ⟨rfl, hb⟩
    rw [eqCall, H0.out]
    replace X := Lib.hid (X.out.below hb)
    clear hb
    obtain ⟨x0_0, x0_1, x0_2, x0_3, x0_4, x0_5, x0_6, x0_7, x0_8, x0_9, x0_10, x0_11⟩ := (X.out.box (g := w.heap.size) (cs := [.int .i64 f0, .int .i64 f1, .int .i64 f2, .int .i64 f3, .string f4, .slice A5 n5 c5, .int .i64 f6_0, .int .i64 f6_1, .int .i64 f7, .int .i64 f8_0, .int .i64 f8_1, .int .i64 f8_2]) (by repeat (first | exact List.mem_cons_self | refine List.mem_cons_of_mem _ ?_))).c12
    obtain ⟨x1_0, x1_1, x1_2, x1_3, x1_4, x1_5, x1_6, x1_7, x1_8, x1_9, x1_10, x1_11⟩ := (X.out.box (g := w.heap.size + 1) (cs := [.int .i64 f0, .int .i64 f1, .int .i64 f2, .int .i64 f3, .string f4, .slice A5 n5 c5, .int .i64 0, .int .i64 0, .int .i64 0, .int .i64 f8_0, .int .i64 f8_1, .int .i64 f8_2]) (by repeat (first | exact List.mem_cons_self | refine List.mem_cons_of_mem _ ?_))).c12
    go_wp2_with fail
    go_ret
    exact GivesBool.of HN.out X.out.1
  · have H0 := Lib.hid h0
    clear h0
    rcases h1 : (oneTo f1 f2) with _ | _
    · have H1 := Lib.hid h1
      have HN : Hid (false = V) := Lib.hid (by rw [← HV.out]; simp only [H0.out, H1.out, Bool.true_and, Bool.false_and])
      clear h1
      go_enter Try.func50, Try.ntmps50
      go_wp2_with fail
      refine (implEqMsg f0 f1 f2 f3 f4 L5 A5 n5 c5 f6_0 f6_1 f7 f8_0 f8_1 f8_2 f0 f1 f2 f3 f4 L5 A5 n5 c5 0 0 0 f8_0 f8_1 f8_2 _ (HL5.out.below X.out.1) (HL5.out.below X.out.1) HT5.out HT5.out hn5).mono ?_
      rintro e w0 ⟨rfl, hb⟩
      rw [eqCall, H0.out]
      replace X := Lib.hid (X.out.below hb)
      clear hb
      obtain ⟨x0_0, x0_1, x0_2, x0_3, x0_4, x0_5, x0_6, x0_7, x0_8, x0_9, x0_10, x0_11⟩ := (X.out.box (g := w.heap.size) (cs := [.int .i64 f0, .int .i64 f1, .int .i64 f2, .int .i64 f3, .string f4, .slice A5 n5 c5, .int .i64 f6_0, .int .i64 f6_1, .int .i64 f7, .int .i64 f8_0, .int .i64 f8_1, .int .i64 f8_2]) (by repeat (first | exact List.mem_cons_self | refine List.mem_cons_of_mem _ ?_))).c12
      obtain ⟨x1_0, x1_1, x1_2, x1_3, x1_4, x1_5, x1_6, x1_7, x1_8, x1_9, x1_10, x1_11⟩ := (X.out.box (g := w.heap.size + 1) (cs := [.int .i64 f0, .int .i64 f1, .int .i64 f2, .int .i64 f3, .string f4, .slice A5 n5 c5, .int .i64 0, .int .i64 0, .int .i64 0, .int .i64 f8_0, .int .i64 f8_1, .int .i64 f8_2]) (by repeat (first | exact List.mem_cons_self | refine List.mem_cons_of_mem _ ?_))).c12
      go_wp2_with fail
      refine (implTo f0 f1 f2 f3 f4 L5 A5 n5 c5 f6_0 f6_1 f7 f8_0 f8_1 f8_2 _).mono ?_
      rintro e w1 ⟨rfl, hb⟩
      clear x0_0 x0_1 x0_2 x0_3 x0_4 x0_5 x0_6 x0_7 x0_8 x0_9 x0_10 x0_11 x1_0 x1_1 x1_2 x1_3 x1_4 x1_5 x1_6 x1_7 x1_8 x1_9 x1_10 x1_11
      rw [H1.out]
      replace X := Lib.hid (X.out.below hb)
      clear hb
      obtain ⟨x0_0, x0_1, x0_2, x0_3, x0_4, x0_5, x0_6, x0_7, x0_8, x0_9, x0_10, x0_11⟩ := (X.out.box (g := w.heap.size) (cs := [.int .i64 f0, .int .i64 f1, .int .i64 f2, .int .i64 f3, .string f4, .slice A5 n5 c5, .int .i64 f6_0, .int .i64 f6_1, .int .i64 f7, .int .i64 f8_0, .int .i64 f8_1, .int .i64 f8_2]) (by repeat (first | exact List.mem_cons_self | refine List.mem_cons_of_mem _ ?_))).c12
      obtain ⟨x1_0, x1_1, x1_2, x1_3, x1_4, x1_5, x1_6, x1_7, x1_8, x1_9, x1_10, x1_11⟩ := (X.out.box (g := w.heap.size + 1) (cs := [.int .i64 f0, .int .i64 f1, .int .i64 f2, .int .i64 f3, .string f4, .slice A5 n5 c5, .int .i64 0, .int .i64 0, .int .i64 0, .int .i64 f8_0, .int .i64 f8_1, .int .i64 f8_2]) (by repeat (first | exact List.mem_cons_self | refine List.mem_cons_of_mem _ ?_))).c12
      go_wp2_with fail
      go_ret
      exact GivesBool.of HN.out X.out.1
    · have H1 := Lib.hid h1
      clear h1
      rcases h2 : (oneB f3) with _ | _
      · have H2 := Lib.hid h2
        have HN : Hid (false = V) := Lib.hid (by rw [← HV.out]; simp only [H0.out, H1.out, H2.out, Bool.true_and, Bool.false_and])
        clear h2
        go_enter Try.func50, Try.ntmps50
        go_wp2_with fail
        refine (implEqMsg f0 f1 f2 f3 f4 L5 A5 n5 c5 f6_0 f6_1 f7 f8_0 f8_1 f8_2 f0 f1 f2 f3 f4 L5 A5 n5 c5 0 0 0 f8_0 f8_1 f8_2 _ (HL5.out.below X.out.1) (HL5.out.below X.out.1) HT5.out HT5.out hn5).mono ?_
        rintro e w0 ⟨rfl, hb⟩
        rw [eqCall, H0.out]
        replace X := Lib.hid (X.out.below hb)
        clear hb
        obtain ⟨x0_0, x0_1, x0_2, x0_3, x0_4, x0_5, x0_6, x0_7, x0_8, x0_9, x0_10, x0_11⟩ := (X.out.box (g := w.heap.size) (cs := [.int .i64 f0, .int .i64 f1, .int .i64 f2, .int .i64 f3, .string f4, .slice A5 n5 c5, .int .i64 f6_0, .int .i64 f6_1, .int .i64 f7, .int .i64 f8_0, .int .i64 f8_1, .int .i64 f8_2]) (by repeat (first | exact List.mem_cons_self | refine List.mem_cons_of_mem _ ?_))).c12
        obtain ⟨x1_0, x1_1, x1_2, x1_3, x1_4, x1_5, x1_6, x1_7, x1_8, x1_9, x1_10, x1_11⟩ := (X.out.box (g := w.heap.size + 1) (cs := [.int .i64 f0, .int .i64 f1, .int .i64 f2, .int .i64 f3, .string f4, .slice A5 n5 c5, .int .i64 0, .int .i64 0, .int .i64 0, .int .i64 f8_0, .int .i64 f8_1, .int .i64 f8_2]) (by repeat (first | exact List.mem_cons_self | refine List.mem_cons_of_mem _ ?_))).c12
        go_wp2_with fail
        refine (implTo f0 f1 f2 f3 f4 L5 A5 n5 c5 f6_0 f6_1 f7 f8_0 f8_1 f8_2 _).mono ?_
        rintro e w1 ⟨rfl, hb⟩
        clear x0_0 x0_1 x0_2 x0_3 x0_4 x0_5 x0_6 x0_7 x0_8 x0_9 x0_10 x0_11 x1_0 x1_1 x1_2 x1_3 x1_4 x1_5 x1_6 x1_7 x1_8 x1_9 x1_10 x1_11
        rw [H1.out]
        replace X := Lib.hid (X.out.below hb)
        clear hb
        obtain ⟨x0_0, x0_1, x0_2, x0_3, x0_4, x0_5, x0_6, x0_7, x0_8, x0_9, x0_10, x0_11⟩ := (X.out.box (g := w.heap.size) (cs := [.int .i64 f0, .int .i64 f1, .int .i64 f2, .int .i64 f3, .string f4, .slice A5 n5 c5, .int .i64 f6_0, .int .i64 f6_1, .int .i64 f7, .int .i64 f8_0, .int .i64 f8_1, .int .i64 f8_2]) (by repeat (first | exact List.mem_cons_self | refine List.mem_cons_of_mem _ ?_))).c12
        obtain ⟨x1_0, x1_1, x1_2, x1_3, x1_4, x1_5, x1_6, x1_7, x1_8, x1_9, x1_10, x1_11⟩ := (X.out.box (g := w.heap.size + 1) (cs := [.int .i64 f0, .int .i64 f1, .int .i64 f2, .int .i64 f3, .string f4, .slice A5 n5 c5, .int .i64 0, .int .i64 0, .int .i64 0, .int .i64 f8_0, .int .i64 f8_1, .int .i64 f8_2]) (by repeat (first | exact List.mem_cons_self | refine List.mem_cons_of_mem _ ?_))).c12
        go_wp2_with fail
        refine (implOne f3 _).mono ?_
        rintro e w2 ⟨rfl, rfl⟩
        clear x0_0 x0_1 x0_2 x0_3 x0_4 x0_5 x0_6 x0_7 x0_8 x0_9 x0_10 x0_11 x1_0 x1_1 x1_2 x1_3 x1_4 x1_5 x1_6 x1_7 x1_8 x1_9 x1_10 x1_11
        rw [H2.out]
        obtain ⟨x0_0, x0_1, x0_2, x0_3, x0_4, x0_5, x0_6, x0_7, x0_8, x0_9, x0_10, x0_11⟩ := (X.out.box (g := w.heap.size) (cs := [.int .i64 f0, .int .i64 f1, .int .i64 f2, .int .i64 f3, .string f4, .slice A5 n5 c5, .int .i64 f6_0, .int .i64 f6_1, .int .i64 f7, .int .i64 f8_0, .int .i64 f8_1, .int .i64 f8_2]) (by repeat (first | exact List.mem_cons_self | refine List.mem_cons_of_mem _ ?_))).c12
        obtain ⟨x1_0, x1_1, x1_2, x1_3, x1_4, x1_5, x1_6, x1_7, x1_8, x1_9, x1_10, x1_11⟩ := (X.out.box (g := w.heap.size + 1) (cs := [.int .i64 f0, .int .i64 f1, .int .i64 f2, .int .i64 f3, .string f4, .slice A5 n5 c5, .int .i64 0, .int .i64 0, .int .i64 0, .int .i64 f8_0, .int .i64 f8_1, .int .i64 f8_2]) (by repeat (first | exact List.mem_cons_self | refine List.mem_cons_of_mem _ ?_))).c12
        go_wp2_with fail
        go_ret
        exact GivesBool.of HN.out X.out.1
      · have H2 := Lib.hid h2
        clear h2
        rcases h3 : (isName f4) with _ | _
        · have H3 := Lib.hid h3
          have HN : Hid (false = V) := Lib.hid (by rw [← HV.out]; simp only [H0.out, H1.out, H2.out, H3.out, Bool.true_and, Bool.false_and])
          clear h3
          go_enter Try.func50, Try.ntmps50
          go_wp2_with fail
          refine (implEqMsg f0 f1 f2 f3 f4 L5 A5 n5 c5 f6_0 f6_1 f7 f8_0 f8_1 f8_2 f0 f1 f2 f3 f4 L5 A5 n5 c5 0 0 0 f8_0 f8_1 f8_2 _ (HL5.out.below X.out.1) (HL5.out.below X.out.1) HT5.out HT5.out hn5).mono ?_
          rintro e w0 ⟨rfl, hb⟩
          rw [eqCall, H0.out]
          replace X := Lib.hid (X.out.below hb)
          clear hb
          obtain ⟨x0_0, x0_1, x0_2, x0_3, x0_4, x0_5, x0_6, x0_7, x0_8, x0_9, x0_10, x0_11⟩ := (X.out.box (g := w.heap.size) (cs := [.int .i64 f0, .int .i64 f1, .int .i64 f2, .int .i64 f3, .string f4, .slice A5 n5 c5, .int .i64 f6_0, .int .i64 f6_1, .int .i64 f7, .int .i64 f8_0, .int .i64 f8_1, .int .i64 f8_2]) (by repeat (first | exact List.mem_cons_self | refine List.mem_cons_of_mem _ ?_))).c12
          obtain ⟨x1_0, x1_1, x1_2, x1_3, x1_4, x1_5, x1_6, x1_7, x1_8, x1_9, x1_10, x1_11⟩ := (X.out.box (g := w.heap.size + 1) (cs := [.int .i64 f0, .int .i64 f1, .int .i64 f2, .int .i64 f3, .string f4, .slice A5 n5 c5, .int .i64 0, .int .i64 0, .int .i64 0, .int .i64 f8_0, .int .i64 f8_1, .int .i64 f8_2]) (by repeat (first | exact List.mem_cons_self | refine List.mem_cons_of_mem _ ?_))).c12
          go_wp2_with fail
          refine (implTo f0 f1 f2 f3 f4 L5 A5 n5 c5 f6_0 f6_1 f7 f8_0 f8_1 f8_2 _).mono ?_
          rintro e w1 ⟨rfl, hb⟩
          clear x0_0 x0_1 x0_2 x0_3 x0_4 x0_5 x0_6 x0_7 x0_8 x0_9 x0_10 x0_11 x1_0 x1_1 x1_2 x1_3 x1_4 x1_5 x1_6 x1_7 x1_8 x1_9 x1_10 x1_11
          rw [H1.out]
          replace X := Lib.hid (X.out.below hb)
          clear hb
          obtain ⟨x0_0, x0_1, x0_2, x0_3, x0_4, x0_5, x0_6, x0_7, x0_8, x0_9, x0_10, x0_11⟩ := (X.out.box (g := w.heap.size) (cs := [.int .i64 f0, .int .i64 f1, .int .i64 f2, .int .i64 f3, .string f4, .slice A5 n5 c5, .int .i64 f6_0, .int .i64 f6_1, .int .i64 f7, .int .i64 f8_0, .int .i64 f8_1, .int .i64 f8_2]) (by repeat (first | exact List.mem_cons_self | refine List.mem_cons_of_mem _ ?_))).c12
          obtain ⟨x1_0, x1_1, x1_2, x1_3, x1_4, x1_5, x1_6, x1_7, x1_8, x1_9, x1_10, x1_11⟩ := (X.out.box (g := w.heap.size + 1) (cs := [.int .i64 f0, .int .i64 f1, .int .i64 f2, .int .i64 f3, .string f4, .slice A5 n5 c5, .int .i64 0, .int .i64 0, .int .i64 0, .int .i64 f8_0, .int .i64 f8_1, .int .i64 f8_2]) (by repeat (first | exact List.mem_cons_self | refine List.mem_cons_of_mem _ ?_))).c12
          go_wp2_with fail
          refine (implOne f3 _).mono ?_
          rintro e w2 ⟨rfl, rfl⟩
          clear x0_0 x0_1 x0_2 x0_3 x0_4 x0_5 x0_6 x0_7 x0_8 x0_9 x0_10 x0_11 x1_0 x1_1 x1_2 x1_3 x1_4 x1_5 x1_6 x1_7 x1_8 x1_9 x1_10 x1_11
          rw [H2.out]
          obtain ⟨x0_0, x0_1, x0_2, x0_3, x0_4, x0_5, x0_6, x0_7, x0_8, x0_9, x0_10, x0_11⟩ := (X.out.box (g := w.heap.size) (cs := [.int .i64 f0, .int .i64 f1, .int .i64 f2, .int .i64 f3, .string f4, .slice A5 n5 c5, .int .i64 f6_0, .int .i64 f6_1, .int .i64 f7, .int .i64 f8_0, .int .i64 f8_1, .int .i64 f8_2]) (by repeat (first | exact List.mem_cons_self | refine List.mem_cons_of_mem _ ?_))).c12
          obtain ⟨x1_0, x1_1, x1_2, x1_3, x1_4, x1_5, x1_6, x1_7, x1_8, x1_9, x1_10, x1_11⟩ := (X.out.box (g := w.heap.size + 1) (cs := [.int .i64 f0, .int .i64 f1, .int .i64 f2, .int .i64 f3, .string f4, .slice A5 n5 c5, .int .i64 0, .int .i64 0, .int .i64 0, .int .i64 f8_0, .int .i64 f8_1, .int .i64 f8_2]) (by repeat (first | exact List.mem_cons_self | refine List.mem_cons_of_mem _ ?_))).c12
          go_wp2_with fail
          refine (implName f4 _).mono ?_
          rintro e w3 ⟨rfl, hb⟩
          clear x0_0 x0_1 x0_2 x0_3 x0_4 x0_5 x0_6 x0_7 x0_8 x0_9 x0_10 x0_11 x1_0 x1_1 x1_2 x1_3 x1_4 x1_5 x1_6 x1_7 x1_8 x1_9 x1_10 x1_11
          rw [H3.out]
          replace X := Lib.hid (X.out.below hb)
          clear hb
          obtain ⟨x0_0, x0_1, x0_2, x0_3, x0_4, x0_5, x0_6, x0_7, x0_8, x0_9, x0_10, x0_11⟩ := (X.out.box (g := w.heap.size) (cs := [.int .i64 f0, .int .i64 f1, .int .i64 f2, .int .i64 f3, .string f4, .slice A5 n5 c5, .int .i64 f6_0, .int .i64 f6_1, .int .i64 f7, .int .i64 f8_0, .int .i64 f8_1, .int .i64 f8_2]) (by repeat (first | exact List.mem_cons_self | refine List.mem_cons_of_mem _ ?_))).c12
          obtain ⟨x1_0, x1_1, x1_2, x1_3, x1_4, x1_5, x1_6, x1_7, x1_8, x1_9, x1_10, x1_11⟩ := (X.out.box (g := w.heap.size + 1) (cs := [.int .i64 f0, .int .i64 f1, .int .i64 f2, .int .i64 f3, .string f4, .slice A5 n5 c5, .int .i64 0, .int .i64 0, .int .i64 0, .int .i64 f8_0, .int .i64 f8_1, .int .i64 f8_2]) (by repeat (first | exact List.mem_cons_self | refine List.mem_cons_of_mem _ ?_))).c12
          go_wp2_with fail
          go_ret
          exact GivesBool.of HN.out X.out.1
        · have H3 := Lib.hid h3
          clear h3
          rcases h4 : (argsB L5) with _ | _
          · have H4 := Lib.hid h4
            have HN : Hid (false = V) := Lib.hid (by rw [← HV.out]; simp only [H0.out, H1.out, H2.out, H3.out, H4.out, Bool.true_and, Bool.false_and])
            clear h4
            go_enter Try.func50, Try.ntmps50
            go_wp2_with fail
            refine (implEqMsg f0 f1 f2 f3 f4 L5 A5 n5 c5 f6_0 f6_1 f7 f8_0 f8_1 f8_2 f0 f1 f2 f3 f4 L5 A5 n5 c5 0 0 0 f8_0 f8_1 f8_2 _ (HL5.out.below X.out.1) (HL5.out.below X.out.1) HT5.out HT5.out hn5).mono ?_
            rintro e w0 ⟨rfl, hb⟩
            rw [eqCall, H0.out]
            replace X := Lib.hid (X.out.below hb)
            clear hb
            obtain ⟨x0_0, x0_1, x0_2, x0_3, x0_4, x0_5, x0_6, x0_7, x0_8, x0_9, x0_10, x0_11⟩ := (X.out.box (g := w.heap.size) (cs := [.int .i64 f0, .int .i64 f1, .int .i64 f2, .int .i64 f3, .string f4, .slice A5 n5 c5, .int .i64 f6_0, .int .i64 f6_1, .int .i64 f7, .int .i64 f8_0, .int .i64 f8_1, .int .i64 f8_2]) (by repeat (first | exact List.mem_cons_self | refine List.mem_cons_of_mem _ ?_))).c12
            obtain ⟨x1_0, x1_1, x1_2, x1_3, x1_4, x1_5, x1_6, x1_7, x1_8, x1_9, x1_10, x1_11⟩ := (X.out.box (g := w.heap.size + 1) (cs := [.int .i64 f0, .int .i64 f1, .int .i64 f2, .int .i64 f3, .string f4, .slice A5 n5 c5, .int .i64 0, .int .i64 0, .int .i64 0, .int .i64 f8_0, .int .i64 f8_1, .int .i64 f8_2]) (by repeat (first | exact List.mem_cons_self | refine List.mem_cons_of_mem _ ?_))).c12
            go_wp2_with fail
            refine (implTo f0 f1 f2 f3 f4 L5 A5 n5 c5 f6_0 f6_1 f7 f8_0 f8_1 f8_2 _).mono ?_
            rintro e w1 ⟨rfl, hb⟩
            clear x0_0 x0_1 x0_2 x0_3 x0_4 x0_5 x0_6 x0_7 x0_8 x0_9 x0_10 x0_11 x1_0 x1_1 x1_2 x1_3 x1_4 x1_5 x1_6 x1_7 x1_8 x1_9 x1_10 x1_11
            rw [H1.out]
            replace X := Lib.hid (X.out.below hb)
            clear hb
            obtain ⟨x0_0, x0_1, x0_2, x0_3, x0_4, x0_5, x0_6, x0_7, x0_8, x0_9, x0_10, x0_11⟩ := (X.out.box (g := w.heap.size) (cs := [.int .i64 f0, .int .i64 f1, .int .i64 f2, .int .i64 f3, .string f4, .slice A5 n5 c5, .int .i64 f6_0, .int .i64 f6_1, .int .i64 f7, .int .i64 f8_0, .int .i64 f8_1, .int .i64 f8_2]) (by repeat (first | exact List.mem_cons_self | refine List.mem_cons_of_mem _ ?_))).c12
            obtain ⟨x1_0, x1_1, x1_2, x1_3, x1_4, x1_5, x1_6, x1_7, x1_8, x1_9, x1_10, x1_11⟩ := (X.out.box (g := w.heap.size + 1) (cs := [.int .i64 f0, .int .i64 f1, .int .i64 f2, .int .i64 f3, .string f4, .slice A5 n5 c5, .int .i64 0, .int .i64 0, .int .i64 0, .int .i64 f8_0, .int .i64 f8_1, .int .i64 f8_2]) (by repeat (first | exact List.mem_cons_self | refine List.mem_cons_of_mem _ ?_))).c12
            go_wp2_with fail
            refine (implOne f3 _).mono ?_
            rintro e w2 ⟨rfl, rfl⟩
            clear x0_0 x0_1 x0_2 x0_3 x0_4 x0_5 x0_6 x0_7 x0_8 x0_9 x0_10 x0_11 x1_0 x1_1 x1_2 x1_3 x1_4 x1_5 x1_6 x1_7 x1_8 x1_9 x1_10 x1_11
            rw [H2.out]
            obtain ⟨x0_0, x0_1, x0_2, x0_3, x0_4, x0_5, x0_6, x0_7, x0_8, x0_9, x0_10, x0_11⟩ := (X.out.box (g := w.heap.size) (cs := [.int .i64 f0, .int .i64 f1, .int .i64 f2, .int .i64 f3, .string f4, .slice A5 n5 c5, .int .i64 f6_0, .int .i64 f6_1, .int .i64 f7, .int .i64 f8_0, .int .i64 f8_1, .int .i64 f8_2]) (by repeat (first | exact List.mem_cons_self | refine List.mem_cons_of_mem _ ?_))).c12
            obtain ⟨x1_0, x1_1, x1_2, x1_3, x1_4, x1_5, x1_6, x1_7, x1_8, x1_9, x1_10, x1_11⟩ := (X.out.box (g := w.heap.size + 1) (cs := [.int .i64 f0, .int .i64 f1, .int .i64 f2, .int .i64 f3, .string f4, .slice A5 n5 c5, .int .i64 0, .int .i64 0, .int .i64 0, .int .i64 f8_0, .int .i64 f8_1, .int .i64 f8_2]) (by repeat (first | exact List.mem_cons_self | refine List.mem_cons_of_mem _ ?_))).c12
            go_wp2_with fail
            refine (implName f4 _).mono ?_
            rintro e w3 ⟨rfl, hb⟩
            clear x0_0 x0_1 x0_2 x0_3 x0_4 x0_5 x0_6 x0_7 x0_8 x0_9 x0_10 x0_11 x1_0 x1_1 x1_2 x1_3 x1_4 x1_5 x1_6 x1_7 x1_8 x1_9 x1_10 x1_11
            rw [H3.out]
            replace X := Lib.hid (X.out.below hb)
            clear hb
            obtain ⟨x0_0, x0_1, x0_2, x0_3, x0_4, x0_5, x0_6, x0_7, x0_8, x0_9, x0_10, x0_11⟩ := (X.out.box (g := w.heap.size) (cs := [.int .i64 f0, .int .i64 f1, .int .i64 f2, .int .i64 f3, .string f4, .slice A5 n5 c5, .int .i64 f6_0, .int .i64 f6_1, .int .i64 f7, .int .i64 f8_0, .int .i64 f8_1, .int .i64 f8_2]) (by repeat (first | exact List.mem_cons_self | refine List.mem_cons_of_mem _ ?_))).c12
            obtain ⟨x1_0, x1_1, x1_2, x1_3, x1_4, x1_5, x1_6, x1_7, x1_8, x1_9, x1_10, x1_11⟩ := (X.out.box (g := w.heap.size + 1) (cs := [.int .i64 f0, .int .i64 f1, .int .i64 f2, .int .i64 f3, .string f4, .slice A5 n5 c5, .int .i64 0, .int .i64 0, .int .i64 0, .int .i64 f8_0, .int .i64 f8_1, .int .i64 f8_2]) (by repeat (first | exact List.mem_cons_self | refine List.mem_cons_of_mem _ ?_))).c12
            go_wp2_with fail
            refine (implArgs L5 A5 n5 c5 _ (HL5.out.below X.out.1) HT5.out hn5).mono ?_
            rintro e w4 ⟨rfl, hb⟩
            clear x0_0 x0_1 x0_2 x0_3 x0_4 x0_5 x0_6 x0_7 x0_8 x0_9 x0_10 x0_11 x1_0 x1_1 x1_2 x1_3 x1_4 x1_5 x1_6 x1_7 x1_8 x1_9 x1_10 x1_11
            rw [H4.out]
            replace X := Lib.hid (X.out.below hb)
            clear hb
            obtain ⟨x0_0, x0_1, x0_2, x0_3, x0_4, x0_5, x0_6, x0_7, x0_8, x0_9, x0_10, x0_11⟩ := (X.out.box (g := w.heap.size) (cs := [.int .i64 f0, .int .i64 f1, .int .i64 f2, .int .i64 f3, .string f4, .slice A5 n5 c5, .int .i64 f6_0, .int .i64 f6_1, .int .i64 f7, .int .i64 f8_0, .int .i64 f8_1, .int .i64 f8_2]) (by repeat (first | exact List.mem_cons_self | refine List.mem_cons_of_mem _ ?_))).c12
            obtain ⟨x1_0, x1_1, x1_2, x1_3, x1_4, x1_5, x1_6, x1_7, x1_8, x1_9, x1_10, x1_11⟩ := (X.out.box (g := w.heap.size + 1) (cs := [.int .i64 f0, .int .i64 f1, .int .i64 f2, .int .i64 f3, .string f4, .slice A5 n5 c5, .int .i64 0, .int .i64 0, .int .i64 0, .int .i64 f8_0, .int .i64 f8_1, .int .i64 f8_2]) (by repeat (first | exact List.mem_cons_self | refine List.mem_cons_of_mem _ ?_))).c12
            go_wp2_with fail
            go_ret
            exact GivesBool.of HN.out X.out.1
          · have H4 := Lib.hid h4
            clear h4
            obtain ⟨b5, h5⟩ : ∃ b5, (tagB f8_0 f8_1 f8_2) = b5 := ⟨_, rfl⟩
            have H5 := Lib.hid h5
            have HN : Hid (b5 = V) := Lib.hid (by rw [← HV.out]; simp only [H0.out, H1.out, H2.out, H3.out, H4.out, H5.out, Bool.true_and])
            clear h5
            go_enter Try.func50, Try.ntmps50
            go_wp2_with fail
            refine (implEqMsg f0 f1 f2 f3 f4 L5 A5 n5 c5 f6_0 f6_1 f7 f8_0 f8_1 f8_2 f0 f1 f2 f3 f4 L5 A5 n5 c5 0 0 0 f8_0 f8_1 f8_2 _ (HL5.out.below X.out.1) (HL5.out.below X.out.1) HT5.out HT5.out hn5).mono ?_
            rintro e w0 ⟨rfl, hb⟩
            rw [eqCall, H0.out]
            replace X := Lib.hid (X.out.below hb)
            clear hb
            obtain ⟨x0_0, x0_1, x0_2, x0_3, x0_4, x0_5, x0_6, x0_7, x0_8, x0_9, x0_10, x0_11⟩ := (X.out.box (g := w.heap.size) (cs := [.int .i64 f0, .int .i64 f1, .int .i64 f2, .int .i64 f3, .string f4, .slice A5 n5 c5, .int .i64 f6_0, .int .i64 f6_1, .int .i64 f7, .int .i64 f8_0, .int .i64 f8_1, .int .i64 f8_2]) (by repeat (first | exact List.mem_cons_self | refine List.mem_cons_of_mem _ ?_))).c12
            obtain ⟨x1_0, x1_1, x1_2, x1_3, x1_4, x1_5, x1_6, x1_7, x1_8, x1_9, x1_10, x1_11⟩ := (X.out.box (g := w.heap.size + 1) (cs := [.int .i64 f0, .int .i64 f1, .int .i64 f2, .int .i64 f3, .string f4, .slice A5 n5 c5, .int .i64 0, .int .i64 0, .int .i64 0, .int .i64 f8_0, .int .i64 f8_1, .int .i64 f8_2]) (by repeat (first | exact List.mem_cons_self | refine List.mem_cons_of_mem _ ?_))).c12
            go_wp2_with fail
            refine (implTo f0 f1 f2 f3 f4 L5 A5 n5 c5 f6_0 f6_1 f7 f8_0 f8_1 f8_2 _).mono ?_
            rintro e w1 ⟨rfl, hb⟩
            clear x0_0 x0_1 x0_2 x0_3 x0_4 x0_5 x0_6 x0_7 x0_8 x0_9 x0_10 x0_11 x1_0 x1_1 x1_2 x1_3 x1_4 x1_5 x1_6 x1_7 x1_8 x1_9 x1_10 x1_11
            rw [H1.out]
            replace X := Lib.hid (X.out.below hb)
            clear hb
            obtain ⟨x0_0, x0_1, x0_2, x0_3, x0_4, x0_5, x0_6, x0_7, x0_8, x0_9, x0_10, x0_11⟩ := (X.out.box (g := w.heap.size) (cs := [.int .i64 f0, .int .i64 f1, .int .i64 f2, .int .i64 f3, .string f4, .slice A5 n5 c5, .int .i64 f6_0, .int .i64 f6_1, .int .i64 f7, .int .i64 f8_0, .int .i64 f8_1, .int .i64 f8_2]) (by repeat (first | exact List.mem_cons_self | refine List.mem_cons_of_mem _ ?_))).c12
            obtain ⟨x1_0, x1_1, x1_2, x1_3, x1_4, x1_5, x1_6, x1_7, x1_8, x1_9, x1_10, x1_11⟩ := (X.out.box (g := w.heap.size + 1) (cs := [.int .i64 f0, .int .i64 f1, .int .i64 f2, .int .i64 f3, .string f4, .slice A5 n5 c5, .int .i64 0, .int .i64 0, .int .i64 0, .int .i64 f8_0, .int .i64 f8_1, .int .i64 f8_2]) (by repeat (first | exact List.mem_cons_self | refine List.mem_cons_of_mem _ ?_))).c12
            go_wp2_with fail
            refine (implOne f3 _).mono ?_
            rintro e w2 ⟨rfl, rfl⟩
            clear x0_0 x0_1 x0_2 x0_3 x0_4 x0_5 x0_6 x0_7 x0_8 x0_9 x0_10 x0_11 x1_0 x1_1 x1_2 x1_3 x1_4 x1_5 x1_6 x1_7 x1_8 x1_9 x1_10 x1_11
            rw [H2.out]
            obtain ⟨x0_0, x0_1, x0_2, x0_3, x0_4, x0_5, x0_6, x0_7, x0_8, x0_9, x0_10, x0_11⟩ := (X.out.box (g := w.heap.size) (cs := [.int .i64 f0, .int .i64 f1, .int .i64 f2, .int .i64 f3, .string f4, .slice A5 n5 c5, .int .i64 f6_0, .int .i64 f6_1, .int .i64 f7, .int .i64 f8_0, .int .i64 f8_1, .int .i64 f8_2]) (by repeat (first | exact List.mem_cons_self | refine List.mem_cons_of_mem _ ?_))).c12
            obtain ⟨x1_0, x1_1, x1_2, x1_3, x1_4, x1_5, x1_6, x1_7, x1_8, x1_9, x1_10, x1_11⟩ := (X.out.box (g := w.heap.size + 1) (cs := [.int .i64 f0, .int .i64 f1, .int .i64 f2, .int .i64 f3, .string f4, .slice A5 n5 c5, .int .i64 0, .int .i64 0, .int .i64 0, .int .i64 f8_0, .int .i64 f8_1, .int .i64 f8_2]) (by repeat (first | exact List.mem_cons_self | refine List.mem_cons_of_mem _ ?_))).c12
            go_wp2_with fail
            refine (implName f4 _).mono ?_
            rintro e w3 ⟨rfl, hb⟩
            clear x0_0 x0_1 x0_2 x0_3 x0_4 x0_5 x0_6 x0_7 x0_8 x0_9 x0_10 x0_11 x1_0 x1_1 x1_2 x1_3 x1_4 x1_5 x1_6 x1_7 x1_8 x1_9 x1_10 x1_11
            rw [H3.out]
            replace X := Lib.hid (X.out.below hb)
            clear hb
            obtain ⟨x0_0, x0_1, x0_2, x0_3, x0_4, x0_5, x0_6, x0_7, x0_8, x0_9, x0_10, x0_11⟩ := (X.out.box (g := w.heap.size) (cs := [.int .i64 f0, .int .i64 f1, .int .i64 f2, .int .i64 f3, .string f4, .slice A5 n5 c5, .int .i64 f6_0, .int .i64 f6_1, .int .i64 f7, .int .i64 f8_0, .int .i64 f8_1, .int .i64 f8_2]) (by repeat (first | exact List.mem_cons_self | refine List.mem_cons_of_mem _ ?_))).c12
            obtain ⟨x1_0, x1_1, x1_2, x1_3, x1_4, x1_5, x1_6, x1_7, x1_8, x1_9, x1_10, x1_11⟩ := (X.out.box (g := w.heap.size + 1) (cs := [.int .i64 f0, .int .i64 f1, .int .i64 f2, .int .i64 f3, .string f4, .slice A5 n5 c5, .int .i64 0, .int .i64 0, .int .i64 0, .int .i64 f8_0, .int .i64 f8_1, .int .i64 f8_2]) (by repeat (first | exact List.mem_cons_self | refine List.mem_cons_of_mem _ ?_))).c12
            go_wp2_with fail
            refine (implArgs L5 A5 n5 c5 _ (HL5.out.below X.out.1) HT5.out hn5).mono ?_
            rintro e w4 ⟨rfl, hb⟩
            clear x0_0 x0_1 x0_2 x0_3 x0_4 x0_5 x0_6 x0_7 x0_8 x0_9 x0_10 x0_11 x1_0 x1_1 x1_2 x1_3 x1_4 x1_5 x1_6 x1_7 x1_8 x1_9 x1_10 x1_11
            rw [H4.out]
            replace X := Lib.hid (X.out.below hb)
            clear hb
            obtain ⟨x0_0, x0_1, x0_2, x0_3, x0_4, x0_5, x0_6, x0_7, x0_8, x0_9, x0_10, x0_11⟩ := (X.out.box (g := w.heap.size) (cs := [.int .i64 f0, .int .i64 f1, .int .i64 f2, .int .i64 f3, .string f4, .slice A5 n5 c5, .int .i64 f6_0, .int .i64 f6_1, .int .i64 f7, .int .i64 f8_0, .int .i64 f8_1, .int .i64 f8_2]) (by repeat (first | exact List.mem_cons_self | refine List.mem_cons_of_mem _ ?_))).c12
            obtain ⟨x1_0, x1_1, x1_2, x1_3, x1_4, x1_5, x1_6, x1_7, x1_8, x1_9, x1_10, x1_11⟩ := (X.out.box (g := w.heap.size + 1) (cs := [.int .i64 f0, .int .i64 f1, .int .i64 f2, .int .i64 f3, .string f4, .slice A5 n5 c5, .int .i64 0, .int .i64 0, .int .i64 0, .int .i64 f8_0, .int .i64 f8_1, .int .i64 f8_2]) (by repeat (first | exact List.mem_cons_self | refine List.mem_cons_of_mem _ ?_))).c12
            go_wp2_with fail
            refine (implTag f8_0 f8_1 f8_2 _).mono ?_
            rintro e w5 ⟨rfl, hb⟩
            clear x0_0 x0_1 x0_2 x0_3 x0_4 x0_5 x0_6 x0_7 x0_8 x0_9 x0_10 x0_11 x1_0 x1_1 x1_2 x1_3 x1_4 x1_5 x1_6 x1_7 x1_8 x1_9 x1_10 x1_11
            rw [H5.out]
            replace X := Lib.hid (X.out.below hb)
            clear hb
            obtain ⟨x0_0, x0_1, x0_2, x0_3, x0_4, x0_5, x0_6, x0_7, x0_8, x0_9, x0_10, x0_11⟩ := (X.out.box (g := w.heap.size) (cs := [.int .i64 f0, .int .i64 f1, .int .i64 f2, .int .i64 f3, .string f4, .slice A5 n5 c5, .int .i64 f6_0, .int .i64 f6_1, .int .i64 f7, .int .i64 f8_0, .int .i64 f8_1, .int .i64 f8_2]) (by repeat (first | exact List.mem_cons_self | refine List.mem_cons_of_mem _ ?_))).c12
            obtain ⟨x1_0, x1_1, x1_2, x1_3, x1_4, x1_5, x1_6, x1_7, x1_8, x1_9, x1_10, x1_11⟩ := (X.out.box (g := w.heap.size + 1) (cs := [.int .i64 f0, .int .i64 f1, .int .i64 f2, .int .i64 f3, .string f4, .slice A5 n5 c5, .int .i64 0, .int .i64 0, .int .i64 0, .int .i64 f8_0, .int .i64 f8_1, .int .i64 f8_2]) (by repeat (first | exact List.mem_cons_self | refine List.mem_cons_of_mem _ ?_))).c12
            go_wp2_with fail
            go_ret
            exact GivesBool.of HN.out X.out.1
set_option maxRecDepth 100000 in
set_option maxHeartbeats 16000000 in
theorem implRet (f0 : Int) (f1 : Int) (f2 : Int) (f3 : Int) (f4 : ByteArray) (L5 : List Dat) (A5 : Option Addr) (n5 c5 : Nat) (f6_0 : Int) (f6_1 : Int) (f7 : Int) (f8_0 : Int) (f8_1 : Int) (f8_2 : Int) (w : World) (hl5 : Lies w (.l L5) [.slice A5 n5 c5]) (ht5 : ∀ x ∈ L5, Has tyWire x) (hn5 : n5 ≤ 1099511627776) : Calls Try.prog 51 #[.agg #[.int .i64 f0, .int .i64 f1, .int .i64 f2, .int .i64 f3, .string f4, .slice A5 n5 c5, .int .i64 f6_0, .int .i64 f6_1, .int .i64 f7, .int .i64 f8_0, .int .i64 f8_1, .int .i64 f8_2]] w (GivesBool ((calmB f2 f4 L5 f8_0 f8_1 f8_2 && decide (f1 = 0) && decide (f7 = 0)) && (oneB f3) && (wireB f6_0 f6_1)) w) := by
  obtain ⟨V, hV⟩ : ∃ V, ((calmB f2 f4 L5 f8_0 f8_1 f8_2 && decide (f1 = 0) && decide (f7 = 0)) && (oneB f3) && (wireB f6_0 f6_1)) = V := ⟨_, rfl⟩
  rw [hV]
  have HV := Lib.hid hV
  clear hV
  have HL5 := Lib.hid hl5
  have HT5 := Lib.hid ht5
  clear hl5 ht5
  have X := (((Held.start w).push #[.int .i64 f0, .int .i64 f1, .int .i64 f2, .int .i64 f3, .string f4, .slice A5 n5 c5, .int .i64 f6_0, .int .i64 f6_1, .int .i64 f7, .int .i64 f8_0, .int .i64 f8_1, .int .i64 f8_2] 30).push #[.int .i64 f0, .int .i64 0, .int .i64 0, .int .i64 f3, .string ⟨#[]⟩, .slice none 0 0, .int .i64 f6_0, .int .i64 f6_1, .int .i64 0, .int .i64 0, .int .i64 0, .int .i64 0] 30)
  simp only [World.size_alloc] at X
  replace X := Lib.hid X
  rcases h0 : (calmB f2 f4 L5 f8_0 f8_1 f8_2 && decide (f1 = 0) && decide (f7 = 0)) with _ | _
  · have H0 := Lib.hid h0
    have HN : Hid (false = V) := Lib.hid (by rw [← HV.out]; simp only [H0.out, Bool.true_and, Bool.false_and])
    clear h0
    go_enter Try.func51, Try.ntmps51
    go_wp2_with fail
    refine (implEqMsg f0 f1 f2 f3 f4 L5 A5 n5 c5 f6_0 f6_1 f7 f8_0 f8_1 f8_2 f0 0 0 f3 ⟨#[]⟩ [] none 0 0 f6_0 f6_1 0 0 0 0 _ (HL5.out.below X.out.1) (liesNil _) HT5.out (fun x hx => by cases hx) hn5).mono ?_
    rintro e w0 ⟨rfl, hb⟩
    rw [eqRet, H0.out]
    replace X := Lib.hid (X.out.below hb)
    clear hb
    obtain ⟨x0_0, x0_1, x0_2, x0_3, x0_4, x0_5, x0_6, x0_7, x0_8, x0_9, x0_10, x0_11⟩ := (X.out.box (g := w.heap.size) (cs := [.int .i64 f0, .int .i64 f1, .int .i64 f2, .int .i64 f3, .string f4, .slice A5 n5 c5, .int .i64 f6_0, .int .i64 f6_1, .int .i64 f7, .int .i64 f8_0, .int .i64 f8_1, .int .i64 f8_2]) (by repeat (first | exact List.mem_cons_self | refine List.mem_cons_of_mem _ ?_))).c12
    obtain ⟨x1_0, x1_1, x1_2, x1_3, x1_4, x1_5, x1_6, x1_7, x1_8, x1_9, x1_10, x1_11⟩ := (X.out.box (g := w.heap.size + 1) (cs := [.int .i64 f0, .int .i64 0, .int .i64 0, .int .i64 f3, .string ⟨#[]⟩, .slice none 0 0, .int .i64 f6_0, .int .i64 f6_1, .int .i64 0, .int .i64 0, .int .i64 0, .int .i64 0]) (by repeat (first | exact List.mem_cons_self | refine List.mem_cons_of_mem _ ?_))).c12
    go_wp2_with fail
    go_ret
    exact GivesBool.of HN.out X.out.1
  · have H0 := Lib.hid h0
    clear h0
    rcases h1 : (oneB f3) with _ | _
    · have H1 := Lib.hid h1
      have HN : Hid (false = V) := Lib.hid (by rw [← HV.out]; simp only [H0.out, H1.out, Bool.true_and, Bool.false_and])
      clear h1
      go_enter Try.func51, Try.ntmps51
      go_wp2_with fail
      refine (implEqMsg f0 f1 f2 f3 f4 L5 A5 n5 c5 f6_0 f6_1 f7 f8_0 f8_1 f8_2 f0 0 0 f3 ⟨#[]⟩ [] none 0 0 f6_0 f6_1 0 0 0 0 _ (HL5.out.below X.out.1) (liesNil _) HT5.out (fun x hx => by cases hx) hn5).mono ?_
      rintro e w0 ⟨rfl, hb⟩
      rw [eqRet, H0.out]
      replace X := Lib.hid (X.out.below hb)
      clear hb
      obtain ⟨x0_0, x0_1, x0_2, x0_3, x0_4, x0_5, x0_6, x0_7, x0_8, x0_9, x0_10, x0_11⟩ := (X.out.box (g := w.heap.size) (cs := [.int .i64 f0, .int .i64 f1, .int .i64 f2, .int .i64 f3, .string f4, .slice A5 n5 c5, .int .i64 f6_0, .int .i64 f6_1, .int .i64 f7, .int .i64 f8_0, .int .i64 f8_1, .int .i64 f8_2]) (by repeat (first | exact List.mem_cons_self | refine List.mem_cons_of_mem _ ?_))).c12
      obtain ⟨x1_0, x1_1, x1_2, x1_3, x1_4, x1_5, x1_6, x1_7, x1_8, x1_9, x1_10, x1_11⟩ := (X.out.box (g := w.heap.size + 1) (cs := [.int .i64 f0, .int .i64 0, .int .i64 0, .int .i64 f3, .string ⟨#[]⟩, .slice none 0 0, .int .i64 f6_0, .int .i64 f6_1, .int .i64 0, .int .i64 0, .int .i64 0, .int .i64 0]) (by repeat (first | exact List.mem_cons_self | refine List.mem_cons_of_mem _ ?_))).c12
      go_wp2_with fail
      refine (implOne f3 _).mono ?_
      rintro e w1 ⟨rfl, rfl⟩
      clear x0_0 x0_1 x0_2 x0_3 x0_4 x0_5 x0_6 x0_7 x0_8 x0_9 x0_10 x0_11 x1_0 x1_1 x1_2 x1_3 x1_4 x1_5 x1_6 x1_7 x1_8 x1_9 x1_10 x1_11
      rw [H1.out]
      obtain ⟨x0_0, x0_1, x0_2, x0_3, x0_4, x0_5, x0_6, x0_7, x0_8, x0_9, x0_10, x0_11⟩ := (X.out.box (g := w.heap.size) (cs := [.int .i64 f0, .int .i64 f1, .int .i64 f2, .int .i64 f3, .string f4, .slice A5 n5 c5, .int .i64 f6_0, .int .i64 f6_1, .int .i64 f7, .int .i64 f8_0, .int .i64 f8_1, .int .i64 f8_2]) (by repeat (first | exact List.mem_cons_self | refine List.mem_cons_of_mem _ ?_))).c12
      obtain ⟨x1_0, x1_1, x1_2, x1_3, x1_4, x1_5, x1_6, x1_7, x1_8, x1_9, x1_10, x1_11⟩ := (X.out.box (g := w.heap.size + 1) (cs := [.int .i64 f0, .int .i64 0, .int .i64 0, .int .i64 f3, .string ⟨#[]⟩, .slice none 0 0, .int .i64 f6_0, .int .i64 f6_1, .int .i64 0, .int .i64 0, .int .i64 0, .int .i64 0]) (by repeat (first | exact List.mem_cons_self | refine List.mem_cons_of_mem _ ?_))).c12
      go_wp2_with fail
      go_ret
      exact GivesBool.of HN.out X.out.1
    · have H1 := Lib.hid h1
      clear h1
      obtain ⟨b2, h2⟩ : ∃ b2, (wireB f6_0 f6_1) = b2 := ⟨_, rfl⟩
      have H2 := Lib.hid h2
      have HN : Hid (b2 = V) := Lib.hid (by rw [← HV.out]; simp only [H0.out, H1.out, H2.out, Bool.true_and])
      clear h2
      go_enter Try.func51, Try.ntmps51
      go_wp2_with fail
      refine (implEqMsg f0 f1 f2 f3 f4 L5 A5 n5 c5 f6_0 f6_1 f7 f8_0 f8_1 f8_2 f0 0 0 f3 ⟨#[]⟩ [] none 0 0 f6_0 f6_1 0 0 0 0 _ (HL5.out.below X.out.1) (liesNil _) HT5.out (fun x hx => by cases hx) hn5).mono ?_
      rintro e w0 ⟨rfl, hb⟩
      rw [eqRet, H0.out]
      replace X := Lib.hid (X.out.below hb)
      clear hb
      obtain ⟨x0_0, x0_1, x0_2, x0_3, x0_4, x0_5, x0_6, x0_7, x0_8, x0_9, x0_10, x0_11⟩ := (X.out.box (g := w.heap.size) (cs := [.int .i64 f0, .int .i64 f1, .int .i64 f2, .int .i64 f3, .string f4, .slice A5 n5 c5, .int .i64 f6_0, .int .i64 f6_1, .int .i64 f7, .int .i64 f8_0, .int .i64 f8_1, .int .i64 f8_2]) (by repeat (first | exact List.mem_cons_self | refine List.mem_cons_of_mem _ ?_))).c12
      obtain ⟨x1_0, x1_1, x1_2, x1_3, x1_4, x1_5, x1_6, x1_7, x1_8, x1_9, x1_10, x1_11⟩ := (X.out.box (g := w.heap.size + 1) (cs := [.int .i64 f0, .int .i64 0, .int .i64 0, .int .i64 f3, .string ⟨#[]⟩, .slice none 0 0, .int .i64 f6_0, .int .i64 f6_1, .int .i64 0, .int .i64 0, .int .i64 0, .int .i64 0]) (by repeat (first | exact List.mem_cons_self | refine List.mem_cons_of_mem _ ?_))).c12
      go_wp2_with fail
      refine (implOne f3 _).mono ?_
      rintro e w1 ⟨rfl, rfl⟩
      clear x0_0 x0_1 x0_2 x0_3 x0_4 x0_5 x0_6 x0_7 x0_8 x0_9 x0_10 x0_11 x1_0 x1_1 x1_2 x1_3 x1_4 x1_5 x1_6 x1_7 x1_8 x1_9 x1_10 x1_11
      rw [H1.out]
      obtain ⟨x0_0, x0_1, x0_2, x0_3, x0_4, x0_5, x0_6, x0_7, x0_8, x0_9, x0_10, x0_11⟩ := (X.out.box (g := w.heap.size) (cs := [.int .i64 f0, .int .i64 f1, .int .i64 f2, .int .i64 f3, .string f4, .slice A5 n5 c5, .int .i64 f6_0, .int .i64 f6_1, .int .i64 f7, .int .i64 f8_0, .int .i64 f8_1, .int .i64 f8_2]) (by repeat (first | exact List.mem_cons_self | refine List.mem_cons_of_mem _ ?_))).c12
      obtain ⟨x1_0, x1_1, x1_2, x1_3, x1_4, x1_5, x1_6, x1_7, x1_8, x1_9, x1_10, x1_11⟩ := (X.out.box (g := w.heap.size + 1) (cs := [.int .i64 f0, .int .i64 0, .int .i64 0, .int .i64 f3, .string ⟨#[]⟩, .slice none 0 0, .int .i64 f6_0, .int .i64 f6_1, .int .i64 0, .int .i64 0, .int .i64 0, .int .i64 0]) (by repeat (first | exact List.mem_cons_self | refine List.mem_cons_of_mem _ ?_))).c12
      go_wp2_with fail
      refine (implIsW f6_0 f6_1 _).mono ?_
      rintro e w2 ⟨rfl, hb⟩
      clear x0_0 x0_1 x0_2 x0_3 x0_4 x0_5 x0_6 x0_7 x0_8 x0_9 x0_10 x0_11 x1_0 x1_1 x1_2 x1_3 x1_4 x1_5 x1_6 x1_7 x1_8 x1_9 x1_10 x1_11
      rw [H2.out]
      replace X := Lib.hid (X.out.below hb)
      clear hb
      obtain ⟨x0_0, x0_1, x0_2, x0_3, x0_4, x0_5, x0_6, x0_7, x0_8, x0_9, x0_10, x0_11⟩ := (X.out.box (g := w.heap.size) (cs := [.int .i64 f0, .int .i64 f1, .int .i64 f2, .int .i64 f3, .string f4, .slice A5 n5 c5, .int .i64 f6_0, .int .i64 f6_1, .int .i64 f7, .int .i64 f8_0, .int .i64 f8_1, .int .i64 f8_2]) (by repeat (first | exact List.mem_cons_self | refine List.mem_cons_of_mem _ ?_))).c12
      obtain ⟨x1_0, x1_1, x1_2, x1_3, x1_4, x1_5, x1_6, x1_7, x1_8, x1_9, x1_10, x1_11⟩ := (X.out.box (g := w.heap.size + 1) (cs := [.int .i64 f0, .int .i64 0, .int .i64 0, .int .i64 f3, .string ⟨#[]⟩, .slice none 0 0, .int .i64 f6_0, .int .i64 f6_1, .int .i64 0, .int .i64 0, .int .i64 0, .int .i64 0]) (by repeat (first | exact List.mem_cons_self | refine List.mem_cons_of_mem _ ?_))).c12
      go_wp2_with fail
      go_ret
      exact GivesBool.of HN.out X.out.1
set_option maxRecDepth 100000 in
set_option maxHeartbeats 16000000 in
theorem implQu (f0 : Int) (f1 : Int) (f2 : Int) (f3 : Int) (f4 : ByteArray) (L5 : List Dat) (A5 : Option Addr) (n5 c5 : Nat) (f6_0 : Int) (f6_1 : Int) (f7 : Int) (f8_0 : Int) (f8_1 : Int) (f8_2 : Int) (w : World) (hl5 : Lies w (.l L5) [.slice A5 n5 c5]) (ht5 : ∀ x ∈ L5, Has tyWire x) (hn5 : n5 ≤ 1099511627776) : Calls Try.prog 52 #[.agg #[.int .i64 f0, .int .i64 f1, .int .i64 f2, .int .i64 f3, .string f4, .slice A5 n5 c5, .int .i64 f6_0, .int .i64 f6_1, .int .i64 f7, .int .i64 f8_0, .int .i64 f8_1, .int .i64 f8_2]] w (GivesBool ((calmB f2 f4 L5 f8_0 f8_1 f8_2 && decide (f1 = 0) && decide (f7 = 0) && zz f6_0 f6_1) && (oneB f3)) w) := by
  obtain ⟨V, hV⟩ : ∃ V, ((calmB f2 f4 L5 f8_0 f8_1 f8_2 && decide (f1 = 0) && decide (f7 = 0) && zz f6_0 f6_1) && (oneB f3)) = V := ⟨_, rfl⟩
  rw [hV]
  have HV := Lib.hid hV
  clear hV
  have HL5 := Lib.hid hl5
  have HT5 := Lib.hid ht5
  clear hl5 ht5
  have X := (((Held.start w).push #[.int .i64 f0, .int .i64 f1, .int .i64 f2, .int .i64 f3, .string f4, .slice A5 n5 c5, .int .i64 f6_0, .int .i64 f6_1, .int .i64 f7, .int .i64 f8_0, .int .i64 f8_1, .int .i64 f8_2] 30).push #[.int .i64 f0, .int .i64 0, .int .i64 0, .int .i64 f3, .string ⟨#[]⟩, .slice none 0 0, .int .i64 0, .int .i64 0, .int .i64 0, .int .i64 0, .int .i64 0, .int .i64 0] 30)
  simp only [World.size_alloc] at X
  replace X := Lib.hid X
  rcases h0 : (calmB f2 f4 L5 f8_0 f8_1 f8_2 && decide (f1 = 0) && decide (f7 = 0) && zz f6_0 f6_1) with _ | _
  · have H0 := Lib.hid h0
    have HN : Hid (false = V) := Lib.hid (by rw [← HV.out]; simp only [H0.out, Bool.true_and, Bool.false_and])
    clear h0
    go_enter Try.func52, Try.ntmps52
    go_wp2_with fail
    refine (implEqMsg f0 f1 f2 f3 f4 L5 A5 n5 c5 f6_0 f6_1 f7 f8_0 f8_1 f8_2 f0 0 0 f3 ⟨#[]⟩ [] none 0 0 0 0 0 0 0 0 _ (HL5.out.below X.out.1) (liesNil _) HT5.out (fun x hx => by cases hx) hn5).mono ?_
    rintro e w0 ⟨rfl, hb⟩
    rw [eqQu, H0.out]
    replace X := Lib.hid (X.out.below hb)
    clear hb
    obtain ⟨x0_0, x0_1, x0_2, x0_3, x0_4, x0_5, x0_6, x0_7, x0_8, x0_9, x0_10, x0_11⟩ := (X.out.box (g := w.heap.size) (cs := [.int .i64 f0, .int .i64 f1, .int .i64 f2, .int .i64 f3, .string f4, .slice A5 n5 c5, .int .i64 f6_0, .int .i64 f6_1, .int .i64 f7, .int .i64 f8_0, .int .i64 f8_1, .int .i64 f8_2]) (by repeat (first | exact List.mem_cons_self | refine List.mem_cons_of_mem _ ?_))).c12
    obtain ⟨x1_0, x1_1, x1_2, x1_3, x1_4, x1_5, x1_6, x1_7, x1_8, x1_9, x1_10, x1_11⟩ := (X.out.box (g := w.heap.size + 1) (cs := [.int .i64 f0, .int .i64 0, .int .i64 0, .int .i64 f3, .string ⟨#[]⟩, .slice none 0 0, .int .i64 0, .int .i64 0, .int .i64 0, .int .i64 0, .int .i64 0, .int .i64 0]) (by repeat (first | exact List.mem_cons_self | refine List.mem_cons_of_mem _ ?_))).c12
    go_wp2_with fail
    go_ret
    exact GivesBool.of HN.out X.out.1
  · have H0 := Lib.hid h0
    clear h0
    obtain ⟨b1, h1⟩ : ∃ b1, (oneB f3) = b1 := ⟨_, rfl⟩
    have H1 := Lib.hid h1
    have HN : Hid (b1 = V) := Lib.hid (by rw [← HV.out]; simp only [H0.out, H1.out, Bool.true_and])
    clear h1
    go_enter Try.func52, Try.ntmps52
    go_wp2_with fail
    refine (implEqMsg f0 f1 f2 f3 f4 L5 A5 n5 c5 f6_0 f6_1 f7 f8_0 f8_1 f8_2 f0 0 0 f3 ⟨#[]⟩ [] none 0 0 0 0 0 0 0 0 _ (HL5.out.below X.out.1) (liesNil _) HT5.out (fun x hx => by cases hx) hn5).mono ?_
    rintro e w0 ⟨rfl, hb⟩
    rw [eqQu, H0.out]
    replace X := Lib.hid (X.out.below hb)
    clear hb
    obtain ⟨x0_0, x0_1, x0_2, x0_3, x0_4, x0_5, x0_6, x0_7, x0_8, x0_9, x0_10, x0_11⟩ := (X.out.box (g := w.heap.size) (cs := [.int .i64 f0, .int .i64 f1, .int .i64 f2, .int .i64 f3, .string f4, .slice A5 n5 c5, .int .i64 f6_0, .int .i64 f6_1, .int .i64 f7, .int .i64 f8_0, .int .i64 f8_1, .int .i64 f8_2]) (by repeat (first | exact List.mem_cons_self | refine List.mem_cons_of_mem _ ?_))).c12
    obtain ⟨x1_0, x1_1, x1_2, x1_3, x1_4, x1_5, x1_6, x1_7, x1_8, x1_9, x1_10, x1_11⟩ := (X.out.box (g := w.heap.size + 1) (cs := [.int .i64 f0, .int .i64 0, .int .i64 0, .int .i64 f3, .string ⟨#[]⟩, .slice none 0 0, .int .i64 0, .int .i64 0, .int .i64 0, .int .i64 0, .int .i64 0, .int .i64 0]) (by repeat (first | exact List.mem_cons_self | refine List.mem_cons_of_mem _ ?_))).c12
    go_wp2_with fail
    refine (implOne f3 _).mono ?_
    rintro e w1 ⟨rfl, rfl⟩
    clear x0_0 x0_1 x0_2 x0_3 x0_4 x0_5 x0_6 x0_7 x0_8 x0_9 x0_10 x0_11 x1_0 x1_1 x1_2 x1_3 x1_4 x1_5 x1_6 x1_7 x1_8 x1_9 x1_10 x1_11
    rw [H1.out]
    obtain ⟨x0_0, x0_1, x0_2, x0_3, x0_4, x0_5, x0_6, x0_7, x0_8, x0_9, x0_10, x0_11⟩ := (X.out.box (g := w.heap.size) (cs := [.int .i64 f0, .int .i64 f1, .int .i64 f2, .int .i64 f3, .string f4, .slice A5 n5 c5, .int .i64 f6_0, .int .i64 f6_1, .int .i64 f7, .int .i64 f8_0, .int .i64 f8_1, .int .i64 f8_2]) (by repeat (first | exact List.mem_cons_self | refine List.mem_cons_of_mem _ ?_))).c12
    obtain ⟨x1_0, x1_1, x1_2, x1_3, x1_4, x1_5, x1_6, x1_7, x1_8, x1_9, x1_10, x1_11⟩ := (X.out.box (g := w.heap.size + 1) (cs := [.int .i64 f0, .int .i64 0, .int .i64 0, .int .i64 f3, .string ⟨#[]⟩, .slice none 0 0, .int .i64 0, .int .i64 0, .int .i64 0, .int .i64 0, .int .i64 0, .int .i64 0]) (by repeat (first | exact List.mem_cons_self | refine List.mem_cons_of_mem _ ?_))).c12
    go_wp2_with fail
    go_ret
    exact GivesBool.of HN.out X.out.1
set_option maxRecDepth 100000 in
set_option maxHeartbeats 16000000 in
theorem implRelM (f0 : Int) (f1 : Int) (f2 : Int) (f3 : Int) (f4 : ByteArray) (L5 : List Dat) (A5 : Option Addr) (n5 c5 : Nat) (f6_0 : Int) (f6_1 : Int) (f7 : Int) (f8_0 : Int) (f8_1 : Int) (f8_2 : Int) (w : World) (hl5 : Lies w (.l L5) [.slice A5 n5 c5]) (ht5 : ∀ x ∈ L5, Has tyWire x) (hn5 : n5 ≤ 1099511627776) : Calls Try.prog 53 #[.agg #[.int .i64 f0, .int .i64 f1, .int .i64 f2, .int .i64 f3, .string f4, .slice A5 n5 c5, .int .i64 f6_0, .int .i64 f6_1, .int .i64 f7, .int .i64 f8_0, .int .i64 f8_1, .int .i64 f8_2]] w (GivesBool ((calmB f2 f4 L5 f8_0 f8_1 f8_2 && decide (f3 = 0) && zz f6_0 f6_1) && (oneB f1) && (oneB f7)) w) := by
  obtain ⟨V, hV⟩ : ∃ V, ((calmB f2 f4 L5 f8_0 f8_1 f8_2 && decide (f3 = 0) && zz f6_0 f6_1) && (oneB f1) && (oneB f7)) = V := ⟨_, rfl⟩
  rw [hV]
  have HV := Lib.hid hV
  clear hV
  have HL5 := Lib.hid hl5
  have HT5 := Lib.hid ht5
  clear hl5 ht5
  have X := (((Held.start w).push #[.int .i64 f0, .int .i64 f1, .int .i64 f2, .int .i64 f3, .string f4, .slice A5 n5 c5, .int .i64 f6_0, .int .i64 f6_1, .int .i64 f7, .int .i64 f8_0, .int .i64 f8_1, .int .i64 f8_2] 30).push #[.int .i64 f0, .int .i64 f1, .int .i64 0, .int .i64 0, .string ⟨#[]⟩, .slice none 0 0, .int .i64 0, .int .i64 0, .int .i64 f7, .int .i64 0, .int .i64 0, .int .i64 0] 30)
  simp only [World.size_alloc] at X
  replace X := Lib.hid X
  rcases h0 : (calmB f2 f4 L5 f8_0 f8_1 f8_2 && decide (f3 = 0) && zz f6_0 f6_1) with _ | _
  · have H0 := Lib.hid h0
    have HN : Hid (false = V) := Lib.hid (by rw [← HV.out]; simp only [H0.out, Bool.true_and, Bool.false_and])
    clear h0
    go_enter Try.func53, Try.ntmps53
    go_wp2_with fail
    refine (implEqMsg f0 f1 f2 f3 f4 L5 A5 n5 c5 f6_0 f6_1 f7 f8_0 f8_1 f8_2 f0 f1 0 0 ⟨#[]⟩ [] none 0 0 0 0 f7 0 0 0 _ (HL5.out.below X.out.1) (liesNil _) HT5.out (fun x hx => by cases hx) hn5).mono ?_
    rintro e w0 ⟨rfl, hb⟩
    rw [eqRel, H0.out]
    replace X := Lib.hid (X.out.below hb)
    clear hb
    obtain ⟨x0_0, x0_1, x0_2, x0_3, x0_4, x0_5, x0_6, x0_7, x0_8, x0_9, x0_10, x0_11⟩ := (X.out.box (g := w.heap.size) (cs := [.int .i64 f0, .int .i64 f1, .int .i64 f2, .int .i64 f3, .string f4, .slice A5 n5 c5, .int .i64 f6_0, .int .i64 f6_1, .int .i64 f7, .int .i64 f8_0, .int .i64 f8_1, .int .i64 f8_2]) (by repeat (first | exact List.mem_cons_self | refine List.mem_cons_of_mem _ ?_))).c12
    obtain ⟨x1_0, x1_1, x1_2, x1_3, x1_4, x1_5, x1_6, x1_7, x1_8, x1_9, x1_10, x1_11⟩ := (X.out.box (g := w.heap.size + 1) (cs := [.int .i64 f0, .int .i64 f1, .int .i64 0, .int .i64 0, .string ⟨#[]⟩, .slice none 0 0, .int .i64 0, .int .i64 0, .int .i64 f7, .int .i64 0, .int .i64 0, .int .i64 0]) (by repeat (first | exact List.mem_cons_self | refine List.mem_cons_of_mem _ ?_))).c12
    go_wp2_with fail
    go_ret
    exact GivesBool.of HN.out X.out.1
  · have H0 := Lib.hid h0
    clear h0
    rcases h1 : (oneB f1) with _ | _
    · have H1 := Lib.hid h1
      have HN : Hid (false = V) := Lib.hid (by rw [← HV.out]; simp only [H0.out, H1.out, Bool.true_and, Bool.false_and])
      clear h1
      go_enter Try.func53, Try.ntmps53
      go_wp2_with fail
      refine (implEqMsg f0 f1 f2 f3 f4 L5 A5 n5 c5 f6_0 f6_1 f7 f8_0 f8_1 f8_2 f0 f1 0 0 ⟨#[]⟩ [] none 0 0 0 0 f7 0 0 0 _ (HL5.out.below X.out.1) (liesNil _) HT5.out (fun x hx => by cases hx) hn5).mono ?_
      rintro e w0 ⟨rfl, hb⟩
      rw [eqRel, H0.out]
      replace X := Lib.hid (X.out.below hb)
      clear hb
      obtain ⟨x0_0, x0_1, x0_2, x0_3, x0_4, x0_5, x0_6, x0_7, x0_8, x0_9, x0_10, x0_11⟩ := (X.out.box (g := w.heap.size) (cs := [.int .i64 f0, .int .i64 f1, .int .i64 f2, .int .i64 f3, .string f4, .slice A5 n5 c5, .int .i64 f6_0, .int .i64 f6_1, .int .i64 f7, .int .i64 f8_0, .int .i64 f8_1, .int .i64 f8_2]) (by repeat (first | exact List.mem_cons_self | refine List.mem_cons_of_mem _ ?_))).c12
      obtain ⟨x1_0, x1_1, x1_2, x1_3, x1_4, x1_5, x1_6, x1_7, x1_8, x1_9, x1_10, x1_11⟩ := (X.out.box (g := w.heap.size + 1) (cs := [.int .i64 f0, .int .i64 f1, .int .i64 0, .int .i64 0, .string ⟨#[]⟩, .slice none 0 0, .int .i64 0, .int .i64 0, .int .i64 f7, .int .i64 0, .int .i64 0, .int .i64 0]) (by repeat (first | exact List.mem_cons_self | refine List.mem_cons_of_mem _ ?_))).c12
      go_wp2_with fail
      refine (implOne f1 _).mono ?_
      rintro e w1 ⟨rfl, rfl⟩
      clear x0_0 x0_1 x0_2 x0_3 x0_4 x0_5 x0_6 x0_7 x0_8 x0_9 x0_10 x0_11 x1_0 x1_1 x1_2 x1_3 x1_4 x1_5 x1_6 x1_7 x1_8 x1_9 x1_10 x1_11
      rw [H1.out]
      obtain ⟨x0_0, x0_1, x0_2, x0_3, x0_4, x0_5, x0_6, x0_7, x0_8, x0_9, x0_10, x0_11⟩ := (X.out.box (g := w.heap.size) (cs := [.int .i64 f0, .int .i64 f1, .int .i64 f2, .int .i64 f3, .string f4, .slice A5 n5 c5, .int .i64 f6_0, .int .i64 f6_1, .int .i64 f7, .int .i64 f8_0, .int .i64 f8_1, .int .i64 f8_2]) (by repeat (first | exact List.mem_cons_self | refine List.mem_cons_of_mem _ ?_))).c12
      obtain ⟨x1_0, x1_1, x1_2, x1_3, x1_4, x1_5, x1_6, x1_7, x1_8, x1_9, x1_10, x1_11⟩ := (X.out.box (g := w.heap.size + 1) (cs := [.int .i64 f0, .int .i64 f1, .int .i64 0, .int .i64 0, .string ⟨#[]⟩, .slice none 0 0, .int .i64 0, .int .i64 0, .int .i64 f7, .int .i64 0, .int .i64 0, .int .i64 0]) (by repeat (first | exact List.mem_cons_self | refine List.mem_cons_of_mem _ ?_))).c12
      go_wp2_with fail
      go_ret
      exact GivesBool.of HN.out X.out.1
    · have H1 := Lib.hid h1
      clear h1
      obtain ⟨b2, h2⟩ : ∃ b2, (oneB f7) = b2 := ⟨_, rfl⟩
      have H2 := Lib.hid h2
      have HN : Hid (b2 = V) := Lib.hid (by rw [← HV.out]; simp only [H0.out, H1.out, H2.out, Bool.true_and])
      clear h2
      go_enter Try.func53, Try.ntmps53
      go_wp2_with fail
      refine (implEqMsg f0 f1 f2 f3 f4 L5 A5 n5 c5 f6_0 f6_1 f7 f8_0 f8_1 f8_2 f0 f1 0 0 ⟨#[]⟩ [] none 0 0 0 0 f7 0 0 0 _ (HL5.out.below X.out.1) (liesNil _) HT5.out (fun x hx => by cases hx) hn5).mono ?_
      rintro e w0 ⟨rfl, hb⟩
      rw [eqRel, H0.out]
      replace X := Lib.hid (X.out.below hb)
      clear hb
      obtain ⟨x0_0, x0_1, x0_2, x0_3, x0_4, x0_5, x0_6, x0_7, x0_8, x0_9, x0_10, x0_11⟩ := (X.out.box (g := w.heap.size) (cs := [.int .i64 f0, .int .i64 f1, .int .i64 f2, .int .i64 f3, .string f4, .slice A5 n5 c5, .int .i64 f6_0, .int .i64 f6_1, .int .i64 f7, .int .i64 f8_0, .int .i64 f8_1, .int .i64 f8_2]) (by repeat (first | exact List.mem_cons_self | refine List.mem_cons_of_mem _ ?_))).c12
      obtain ⟨x1_0, x1_1, x1_2, x1_3, x1_4, x1_5, x1_6, x1_7, x1_8, x1_9, x1_10, x1_11⟩ := (X.out.box (g := w.heap.size + 1) (cs := [.int .i64 f0, .int .i64 f1, .int .i64 0, .int .i64 0, .string ⟨#[]⟩, .slice none 0 0, .int .i64 0, .int .i64 0, .int .i64 f7, .int .i64 0, .int .i64 0, .int .i64 0]) (by repeat (first | exact List.mem_cons_self | refine List.mem_cons_of_mem _ ?_))).c12
      go_wp2_with fail
      refine (implOne f1 _).mono ?_
      rintro e w1 ⟨rfl, rfl⟩
      clear x0_0 x0_1 x0_2 x0_3 x0_4 x0_5 x0_6 x0_7 x0_8 x0_9 x0_10 x0_11 x1_0 x1_1 x1_2 x1_3 x1_4 x1_5 x1_6 x1_7 x1_8 x1_9 x1_10 x1_11
      rw [H1.out]
      obtain ⟨x0_0, x0_1, x0_2, x0_3, x0_4, x0_5, x0_6, x0_7, x0_8, x0_9, x0_10, x0_11⟩ := (X.out.box (g := w.heap.size) (cs := [.int .i64 f0, .int .i64 f1, .int .i64 f2, .int .i64 f3, .string f4, .slice A5 n5 c5, .int .i64 f6_0, .int .i64 f6_1, .int .i64 f7, .int .i64 f8_0, .int .i64 f8_1, .int .i64 f8_2]) (by repeat (first | exact List.mem_cons_self | refine List.mem_cons_of_mem _ ?_))).c12
      obtain ⟨x1_0, x1_1, x1_2, x1_3, x1_4, x1_5, x1_6, x1_7, x1_8, x1_9, x1_10, x1_11⟩ := (X.out.box (g := w.heap.size + 1) (cs := [.int .i64 f0, .int .i64 f1, .int .i64 0, .int .i64 0, .string ⟨#[]⟩, .slice none 0 0, .int .i64 0, .int .i64 0, .int .i64 f7, .int .i64 0, .int .i64 0, .int .i64 0]) (by repeat (first | exact List.mem_cons_self | refine List.mem_cons_of_mem _ ?_))).c12
      go_wp2_with fail
      refine (implOne f7 _).mono ?_
      rintro e w2 ⟨rfl, rfl⟩
      clear x0_0 x0_1 x0_2 x0_3 x0_4 x0_5 x0_6 x0_7 x0_8 x0_9 x0_10 x0_11 x1_0 x1_1 x1_2 x1_3 x1_4 x1_5 x1_6 x1_7 x1_8 x1_9 x1_10 x1_11
      rw [H2.out]
      obtain ⟨x0_0, x0_1, x0_2, x0_3, x0_4, x0_5, x0_6, x0_7, x0_8, x0_9, x0_10, x0_11⟩ := (X.out.box (g := w.heap.size) (cs := [.int .i64 f0, .int .i64 f1, .int .i64 f2, .int .i64 f3, .string f4, .slice A5 n5 c5, .int .i64 f6_0, .int .i64 f6_1, .int .i64 f7, .int .i64 f8_0, .int .i64 f8_1, .int .i64 f8_2]) (by repeat (first | exact List.mem_cons_self | refine List.mem_cons_of_mem _ ?_))).c12
      obtain ⟨x1_0, x1_1, x1_2, x1_3, x1_4, x1_5, x1_6, x1_7, x1_8, x1_9, x1_10, x1_11⟩ := (X.out.box (g := w.heap.size + 1) (cs := [.int .i64 f0, .int .i64 f1, .int .i64 0, .int .i64 0, .string ⟨#[]⟩, .slice none 0 0, .int .i64 0, .int .i64 0, .int .i64 f7, .int .i64 0, .int .i64 0, .int .i64 0]) (by repeat (first | exact List.mem_cons_self | refine List.mem_cons_of_mem _ ?_))).c12
      go_wp2_with fail
      go_ret
      exact GivesBool.of HN.out X.out.1
set_option maxRecDepth 100000 in
set_option maxHeartbeats 8000000 in
theorem implIsMsg (f0 : Int) (f1 : Int) (f2 : Int) (f3 : Int) (f4 : ByteArray) (L5 : List Dat) (A5 : Option Addr) (n5 c5 : Nat) (f6_0 : Int) (f6_1 : Int) (f7 : Int) (f8_0 : Int) (f8_1 : Int) (f8_2 : Int) (w : World) (hl5 : Lies w (.l L5) [.slice A5 n5 c5]) (ht5 : ∀ x ∈ L5, Has tyWire x) (hn5 : n5 ≤ 1099511627776) : Calls Try.prog 17 #[.agg #[.int .i64 f0, .int .i64 f1, .int .i64 f2, .int .i64 f3, .string f4, .slice A5 n5 c5, .int .i64 f6_0, .int .i64 f6_1, .int .i64 f7, .int .i64 f8_0, .int .i64 f8_1, .int .i64 f8_2]] w (GivesBool (msgB f0 f1 f2 f3 f4 L5 f6_0 f6_1 f7 f8_0 f8_1 f8_2) w) := by
  have HL5 := Lib.hid hl5
  have HT5 := Lib.hid ht5
  clear hl5 ht5
  have X := (Held.start w).push #[.int .i64 f0, .int .i64 f1, .int .i64 f2, .int .i64 f3, .string f4, .slice A5 n5 c5, .int .i64 f6_0, .int .i64 f6_1, .int .i64 f7, .int .i64 f8_0, .int .i64 f8_1, .int .i64 f8_2] 30
  replace X := Lib.hid X
  by_cases k1 : f0 = 1
  · subst k1
    go_enter Try.func17, Try.ntmps17
    go_wp2_with fail
    refine (implCall 1 f1 f2 f3 f4 L5 A5 n5 c5 f6_0 f6_1 f7 f8_0 f8_1 f8_2 _ (HL5.out.below X.out.1) HT5.out hn5).mono ?_
    rintro e w1 ⟨rfl, hb⟩
    replace X := Lib.hid (X.out.below hb)
    clear hb
    go_wp2_with fail
    go_ret
    exact GivesBool.ret X.out.1
  have kb1 : (f0 == 1) = false := by simpa using k1
  by_cases k2 : f0 = 2
  · subst k2
    go_enter Try.func17, Try.ntmps17
    go_wp2_with fail
    refine (implRet 2 f1 f2 f3 f4 L5 A5 n5 c5 f6_0 f6_1 f7 f8_0 f8_1 f8_2 _ (HL5.out.below X.out.1) HT5.out hn5).mono ?_
    rintro e w1 ⟨rfl, hb⟩
    replace X := Lib.hid (X.out.below hb)
    clear hb
    go_wp2_with fail
    go_ret
    exact GivesBool.ret X.out.1
  have kb2 : (f0 == 2) = false := by simpa using k2
  by_cases k3 : f0 = 3
  · subst k3
    go_enter Try.func17, Try.ntmps17
    go_wp2_with fail
    refine (implQu 3 f1 f2 f3 f4 L5 A5 n5 c5 f6_0 f6_1 f7 f8_0 f8_1 f8_2 _ (HL5.out.below X.out.1) HT5.out hn5).mono ?_
    rintro e w1 ⟨rfl, hb⟩
    replace X := Lib.hid (X.out.below hb)
    clear hb
    go_wp2_with fail
    go_ret
    exact GivesBool.ret X.out.1
  have kb3 : (f0 == 3) = false := by simpa using k3
  by_cases k4 : f0 = 4
  · subst k4
    go_enter Try.func17, Try.ntmps17
    go_wp2_with fail
    refine (implQu 4 f1 f2 f3 f4 L5 A5 n5 c5 f6_0 f6_1 f7 f8_0 f8_1 f8_2 _ (HL5.out.below X.out.1) HT5.out hn5).mono ?_
    rintro e w1 ⟨rfl, hb⟩
    replace X := Lib.hid (X.out.below hb)
    clear hb
    go_wp2_with fail
    go_ret
    exact GivesBool.ret X.out.1
  have kb4 : (f0 == 4) = false := by simpa using k4
  by_cases k5 : f0 = 5
  · subst k5
    go_enter Try.func17, Try.ntmps17
    go_wp2_with fail
    refine (implQu 5 f1 f2 f3 f4 L5 A5 n5 c5 f6_0 f6_1 f7 f8_0 f8_1 f8_2 _ (HL5.out.below X.out.1) HT5.out hn5).mono ?_
    rintro e w1 ⟨rfl, hb⟩
    replace X := Lib.hid (X.out.below hb)
    clear hb
    go_wp2_with fail
    go_ret
    exact GivesBool.ret X.out.1
  have kb5 : (f0 == 5) = false := by simpa using k5
  by_cases k6 : f0 = 6
  · subst k6
    go_enter Try.func17, Try.ntmps17
    go_wp2_with fail
    refine (implRelM 6 f1 f2 f3 f4 L5 A5 n5 c5 f6_0 f6_1 f7 f8_0 f8_1 f8_2 _ (HL5.out.below X.out.1) HT5.out hn5).mono ?_
    rintro e w1 ⟨rfl, hb⟩
    replace X := Lib.hid (X.out.below hb)
    clear hb
    go_wp2_with fail
    go_ret
    exact GivesBool.ret X.out.1
  have kb6 : (f0 == 6) = false := by simpa using k6
  have HN : Hid (false = msgB f0 f1 f2 f3 f4 L5 f6_0 f6_1 f7 f8_0 f8_1 f8_2) := Lib.hid (by simp only [msgB, if_neg k1, if_neg k2, if_neg k6, k3, k4, k5, or_self, if_false])
  go_enter Try.func17, Try.ntmps17
  go_wp2_with fail
  go_ret
  exact GivesBool.of HN.out X.out.1
end Go.Proofs.Ytchofnligbgigaa
