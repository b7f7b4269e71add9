/- Chapter 10: NewLink, both sides, and its exact law. -/
import Derived.Test.YtdedioghljkflaaMarkL
import Derived.Test.YtdedioghljkflaaTyG4
import Derived.Deep.RegionHeld3
import Derived.LoopTactic
import Derived.Lib.Hide
import Derived.Deep.QuietTactic
import Derived.BigQuiet
import Derived.Deep.RegionWith
import Derived.Handy
namespace Go.Proofs.Ytdedioghljkflaa
open Go.RowKit
set_option linter.unusedVariables false
set_option linter.unusedSimpArgs false
/-- A value comes back. -/
def GivesX (v : Value) (w : World) (e : Ending) (w' : World) : Prop := e = .returned v ∧ Below w.heap.size w w'
theorem GivesX.ret {v : Value} {w w' : World} (hb : Below w.heap.size w w') : GivesX v w (.returned v) w' := ⟨rfl, hb⟩
theorem nil_liesL (w : World) : Lies w (.l []) [.slice none 0 0] := by rw [Lies]; exact ⟨none, 0, 0, rfl, rfl, Or.inl rfl⟩
theorem nil_ownsL (w : World) (S : Nat → Prop) : Owns w (.l []) [.slice none 0 0] S := by rw [Owns]; exact ⟨none, 0, 0, rfl, rfl, Or.inl rfl⟩
theorem Own3.nil (w : World) : Own3 0 0 w [] none 0 0 [] none 0 0 [] none 0 0 := ⟨(fun _ => False), (fun _ => False), (fun _ => False), nil_ownsL w _, nil_ownsL w _, nil_ownsL w _, (fun b h => h.elim), (fun b h => h.elim), (fun b h => h.elim)⟩
theorem implNewLink (w : World) (p : Int) : Calls Try.prog 25 #[.int .i64 p] w (GivesX (.agg #[.int .i64 p, .bool true, .slice none 0 0, .int .i64 0, .slice none 0 0, .int .i64 0, .slice none 0 0]) w) := by
  go_enter Try.func25, Try.ntmps25
  go_wp2_with (
    with_reducible refine bodyPost_ret (v := .agg #[.int .i64 p, .bool true, .slice none 0 0, .int .i64 0, .slice none 0 0, .int .i64 0, .slice none 0 0]) ?hres rfl ?hpost
    case hres => simp [results, Try.results25, go_sem]
    case hpost => exact GivesX.ret (by go_grown))
theorem specNewLink (w : World) (p : Int) : Calls Try.prog 24 #[.int .i64 p] w (GivesX (.agg #[.int .i64 p, .bool true, .slice none 0 0, .int .i64 0, .slice none 0 0, .int .i64 0, .slice none 0 0]) w) := by
  go_enter Try.func24, Try.ntmps24
  go_wp2_with (
    with_reducible refine bodyPost_ret (v := .agg #[.int .i64 p, .bool true, .slice none 0 0, .int .i64 0, .slice none 0 0, .int .i64 0, .slice none 0 0]) ?hres rfl ?hpost
    case hres => simp [results, Try.results24, go_sem]
    case hpost => exact GivesX.ret (by go_grown))
theorem eqLinkNil (p : Int) (w : World) : Calls Try.prog 26 #[.agg #[.int .i64 p, .bool true, .slice none 0 0, .int .i64 0, .slice none 0 0, .int .i64 0, .slice none 0 0], .agg #[.int .i64 p, .bool true, .slice none 0 0, .int .i64 0, .slice none 0 0, .int .i64 0, .slice none 0 0]] w (GivesBool true w) :=
  eqLink p true [] none 0 0 0 [] none 0 0 0 [] none 0 0 none 0 none 0 none 0 w (nil_liesL w) (nil_liesL w) (fun x h => by cases h) (by omega) (nil_liesL w) (nil_liesL w) (fun x h => by cases h) (by omega) (nil_liesL w) (nil_liesL w) (fun x h => by cases h) (by omega)
theorem markLinkNil (p z : Int) (w : World) (h0 : 0 < z) (h1 : z ≤ 1000000) : Calls Try.prog 27 #[.agg #[.int .i64 p, .bool true, .slice none 0 0, .int .i64 0, .slice none 0 0, .int .i64 0, .slice none 0 0], .int .i64 z] w (GivesInt z w) := by
  refine (markLink p true [] none 0 0 0 [] none 0 0 0 [] none 0 0 z 0 0 w (Own3.nil w) (fun x h => by cases h) (fun x h => by cases h) (fun x h => by cases h) h0 (by simp only [cntAll]; omega) (by omega) (by omega) (by omega) (Nat.zero_le _)).mono ?_
  rintro e w1 ⟨rfl, -, hT⟩
  exact GivesInt.ret (by simp [cntAll]) (hT.below (fun b h => by have h1 := h.2; omega) (Nat.le_refl _))
theorem heldLinkNil (p z : Int) (w : World) (h0 : 0 < z) (h1 : z ≤ 1000000) : Calls Try.prog 28 #[.agg #[.int .i64 p, .bool true, .slice none 0 0, .int .i64 0, .slice none 0 0, .int .i64 0, .slice none 0 0], .int .i64 z] w (GivesInt z w) := by
  refine (heldLink p true [] none 0 0 0 [] none 0 0 0 [] none 0 0 z w (by rw [mkAll]; exact nil_liesL w) (by rw [mkAll]; exact nil_liesL w) (by rw [mkAll]; exact nil_liesL w) (fun x h => by cases h) (fun x h => by cases h) (fun x h => by cases h) h0 (by simp only [cntAll]; omega) (by omega) (by omega) (by omega)).mono ?_
  rintro e w1 ⟨rfl, hb⟩
  exact GivesInt.ret (by simp [cntAll]) hb
set_option maxRecDepth 100000 in
set_option maxHeartbeats 16000000 in
theorem law_NewLink (p : Int) (W : World) :
    Calls Try.prog 4 #[.int .i64 p] W (GivesBool true W) := by
  have X := Lib.hid (St.start W)
  go_enter Try.func4, Try.ntmps4
  go_wp2_with fail
  refine (specNewLink _ p).mono ?_
  rintro e w1 ⟨rfl, hb⟩
  replace X := Lib.hid (X.out.below hb)
  clear hb
  replace X := Lib.hid (X.out.push #[.int .i64 p, .bool true, .slice none 0 0, .int .i64 0, .slice none 0 0, .int .i64 0, .slice none 0 0] 27)
  go_wp2_with fail
  refine (implNewLink _ p).mono ?_
  rintro e w2 ⟨rfl, hb⟩
  replace X := Lib.hid (X.out.below hb)
  clear hb
  replace X := Lib.hid (X.out.push #[.int .i64 p, .bool true, .slice none 0 0, .int .i64 0, .slice none 0 0, .int .i64 0, .slice none 0 0] 27)
  have x0 := X.out.1.at_ (g := w1.heap.size) (i := 0) (v := .int .i64 p) (cs := [.int .i64 p, .bool true, .slice none 0 0, .int .i64 0, .slice none 0 0, .int .i64 0, .slice none 0 0]) (by repeat (first | exact List.mem_cons_self | refine List.mem_cons_of_mem _ ?_)) rfl
  have x1 := X.out.1.at_ (g := w1.heap.size) (i := 1) (v := .bool true) (cs := [.int .i64 p, .bool true, .slice none 0 0, .int .i64 0, .slice none 0 0, .int .i64 0, .slice none 0 0]) (by repeat (first | exact List.mem_cons_self | refine List.mem_cons_of_mem _ ?_)) rfl
  have x2 := X.out.1.at_ (g := w1.heap.size) (i := 2) (v := .slice none 0 0) (cs := [.int .i64 p, .bool true, .slice none 0 0, .int .i64 0, .slice none 0 0, .int .i64 0, .slice none 0 0]) (by repeat (first | exact List.mem_cons_self | refine List.mem_cons_of_mem _ ?_)) rfl
  have x3 := X.out.1.at_ (g := w1.heap.size) (i := 3) (v := .int .i64 0) (cs := [.int .i64 p, .bool true, .slice none 0 0, .int .i64 0, .slice none 0 0, .int .i64 0, .slice none 0 0]) (by repeat (first | exact List.mem_cons_self | refine List.mem_cons_of_mem _ ?_)) rfl
  have x4 := X.out.1.at_ (g := w1.heap.size) (i := 4) (v := .slice none 0 0) (cs := [.int .i64 p, .bool true, .slice none 0 0, .int .i64 0, .slice none 0 0, .int .i64 0, .slice none 0 0]) (by repeat (first | exact List.mem_cons_self | refine List.mem_cons_of_mem _ ?_)) rfl
  have x5 := X.out.1.at_ (g := w1.heap.size) (i := 5) (v := .int .i64 0) (cs := [.int .i64 p, .bool true, .slice none 0 0, .int .i64 0, .slice none 0 0, .int .i64 0, .slice none 0 0]) (by repeat (first | exact List.mem_cons_self | refine List.mem_cons_of_mem _ ?_)) rfl
  have x6 := X.out.1.at_ (g := w1.heap.size) (i := 6) (v := .slice none 0 0) (cs := [.int .i64 p, .bool true, .slice none 0 0, .int .i64 0, .slice none 0 0, .int .i64 0, .slice none 0 0]) (by repeat (first | exact List.mem_cons_self | refine List.mem_cons_of_mem _ ?_)) rfl
  have y0 := X.out.1.at_ (g := w2.heap.size) (i := 0) (v := .int .i64 p) (cs := [.int .i64 p, .bool true, .slice none 0 0, .int .i64 0, .slice none 0 0, .int .i64 0, .slice none 0 0]) (by repeat (first | exact List.mem_cons_self | refine List.mem_cons_of_mem _ ?_)) rfl
  have y1 := X.out.1.at_ (g := w2.heap.size) (i := 1) (v := .bool true) (cs := [.int .i64 p, .bool true, .slice none 0 0, .int .i64 0, .slice none 0 0, .int .i64 0, .slice none 0 0]) (by repeat (first | exact List.mem_cons_self | refine List.mem_cons_of_mem _ ?_)) rfl
  have y2 := X.out.1.at_ (g := w2.heap.size) (i := 2) (v := .slice none 0 0) (cs := [.int .i64 p, .bool true, .slice none 0 0, .int .i64 0, .slice none 0 0, .int .i64 0, .slice none 0 0]) (by repeat (first | exact List.mem_cons_self | refine List.mem_cons_of_mem _ ?_)) rfl
  have y3 := X.out.1.at_ (g := w2.heap.size) (i := 3) (v := .int .i64 0) (cs := [.int .i64 p, .bool true, .slice none 0 0, .int .i64 0, .slice none 0 0, .int .i64 0, .slice none 0 0]) (by repeat (first | exact List.mem_cons_self | refine List.mem_cons_of_mem _ ?_)) rfl
  have y4 := X.out.1.at_ (g := w2.heap.size) (i := 4) (v := .slice none 0 0) (cs := [.int .i64 p, .bool true, .slice none 0 0, .int .i64 0, .slice none 0 0, .int .i64 0, .slice none 0 0]) (by repeat (first | exact List.mem_cons_self | refine List.mem_cons_of_mem _ ?_)) rfl
  have y5 := X.out.1.at_ (g := w2.heap.size) (i := 5) (v := .int .i64 0) (cs := [.int .i64 p, .bool true, .slice none 0 0, .int .i64 0, .slice none 0 0, .int .i64 0, .slice none 0 0]) (by repeat (first | exact List.mem_cons_self | refine List.mem_cons_of_mem _ ?_)) rfl
  have y6 := X.out.1.at_ (g := w2.heap.size) (i := 6) (v := .slice none 0 0) (cs := [.int .i64 p, .bool true, .slice none 0 0, .int .i64 0, .slice none 0 0, .int .i64 0, .slice none 0 0]) (by repeat (first | exact List.mem_cons_self | refine List.mem_cons_of_mem _ ?_)) rfl
  go_wp2_with fail
  refine (eqLinkNil p _).mono ?_
  rintro e w3 ⟨rfl, hb⟩
  replace X := Lib.hid (X.out.below hb)
  clear hb
  clear x0 x1 x2 x3 x4 x5 x6
  clear y0 y1 y2 y3 y4 y5 y6
  have y0 := X.out.1.at_ (g := w2.heap.size) (i := 0) (v := .int .i64 p) (cs := [.int .i64 p, .bool true, .slice none 0 0, .int .i64 0, .slice none 0 0, .int .i64 0, .slice none 0 0]) (by repeat (first | exact List.mem_cons_self | refine List.mem_cons_of_mem _ ?_)) rfl
  have y1 := X.out.1.at_ (g := w2.heap.size) (i := 1) (v := .bool true) (cs := [.int .i64 p, .bool true, .slice none 0 0, .int .i64 0, .slice none 0 0, .int .i64 0, .slice none 0 0]) (by repeat (first | exact List.mem_cons_self | refine List.mem_cons_of_mem _ ?_)) rfl
  have y2 := X.out.1.at_ (g := w2.heap.size) (i := 2) (v := .slice none 0 0) (cs := [.int .i64 p, .bool true, .slice none 0 0, .int .i64 0, .slice none 0 0, .int .i64 0, .slice none 0 0]) (by repeat (first | exact List.mem_cons_self | refine List.mem_cons_of_mem _ ?_)) rfl
  have y3 := X.out.1.at_ (g := w2.heap.size) (i := 3) (v := .int .i64 0) (cs := [.int .i64 p, .bool true, .slice none 0 0, .int .i64 0, .slice none 0 0, .int .i64 0, .slice none 0 0]) (by repeat (first | exact List.mem_cons_self | refine List.mem_cons_of_mem _ ?_)) rfl
  have y4 := X.out.1.at_ (g := w2.heap.size) (i := 4) (v := .slice none 0 0) (cs := [.int .i64 p, .bool true, .slice none 0 0, .int .i64 0, .slice none 0 0, .int .i64 0, .slice none 0 0]) (by repeat (first | exact List.mem_cons_self | refine List.mem_cons_of_mem _ ?_)) rfl
  have y5 := X.out.1.at_ (g := w2.heap.size) (i := 5) (v := .int .i64 0) (cs := [.int .i64 p, .bool true, .slice none 0 0, .int .i64 0, .slice none 0 0, .int .i64 0, .slice none 0 0]) (by repeat (first | exact List.mem_cons_self | refine List.mem_cons_of_mem _ ?_)) rfl
  have y6 := X.out.1.at_ (g := w2.heap.size) (i := 6) (v := .slice none 0 0) (cs := [.int .i64 p, .bool true, .slice none 0 0, .int .i64 0, .slice none 0 0, .int .i64 0, .slice none 0 0]) (by repeat (first | exact List.mem_cons_self | refine List.mem_cons_of_mem _ ?_)) rfl
  go_wp2_with fail
  refine (markLinkNil p 1 _ (by omega) (by omega)).mono ?_
  rintro e w4 ⟨rfl, hb⟩
  replace X := Lib.hid (X.out.below hb)
  clear hb
  clear y0 y1 y2 y3 y4 y5 y6
  have y0 := X.out.1.at_ (g := w2.heap.size) (i := 0) (v := .int .i64 p) (cs := [.int .i64 p, .bool true, .slice none 0 0, .int .i64 0, .slice none 0 0, .int .i64 0, .slice none 0 0]) (by repeat (first | exact List.mem_cons_self | refine List.mem_cons_of_mem _ ?_)) rfl
  have y1 := X.out.1.at_ (g := w2.heap.size) (i := 1) (v := .bool true) (cs := [.int .i64 p, .bool true, .slice none 0 0, .int .i64 0, .slice none 0 0, .int .i64 0, .slice none 0 0]) (by repeat (first | exact List.mem_cons_self | refine List.mem_cons_of_mem _ ?_)) rfl
  have y2 := X.out.1.at_ (g := w2.heap.size) (i := 2) (v := .slice none 0 0) (cs := [.int .i64 p, .bool true, .slice none 0 0, .int .i64 0, .slice none 0 0, .int .i64 0, .slice none 0 0]) (by repeat (first | exact List.mem_cons_self | refine List.mem_cons_of_mem _ ?_)) rfl
  have y3 := X.out.1.at_ (g := w2.heap.size) (i := 3) (v := .int .i64 0) (cs := [.int .i64 p, .bool true, .slice none 0 0, .int .i64 0, .slice none 0 0, .int .i64 0, .slice none 0 0]) (by repeat (first | exact List.mem_cons_self | refine List.mem_cons_of_mem _ ?_)) rfl
  have y4 := X.out.1.at_ (g := w2.heap.size) (i := 4) (v := .slice none 0 0) (cs := [.int .i64 p, .bool true, .slice none 0 0, .int .i64 0, .slice none 0 0, .int .i64 0, .slice none 0 0]) (by repeat (first | exact List.mem_cons_self | refine List.mem_cons_of_mem _ ?_)) rfl
  have y5 := X.out.1.at_ (g := w2.heap.size) (i := 5) (v := .int .i64 0) (cs := [.int .i64 p, .bool true, .slice none 0 0, .int .i64 0, .slice none 0 0, .int .i64 0, .slice none 0 0]) (by repeat (first | exact List.mem_cons_self | refine List.mem_cons_of_mem _ ?_)) rfl
  have y6 := X.out.1.at_ (g := w2.heap.size) (i := 6) (v := .slice none 0 0) (cs := [.int .i64 p, .bool true, .slice none 0 0, .int .i64 0, .slice none 0 0, .int .i64 0, .slice none 0 0]) (by repeat (first | exact List.mem_cons_self | refine List.mem_cons_of_mem _ ?_)) rfl
  go_wp2_with fail
  refine (heldLinkNil p 1 _ (by omega) (by omega)).mono ?_
  rintro e w5 ⟨rfl, hb⟩
  replace X := Lib.hid (X.out.below hb)
  clear hb
  clear y0 y1 y2 y3 y4 y5 y6
  go_wp2_with fail
  refine (implNewLink _ p).mono ?_
  rintro e w6 ⟨rfl, hb⟩
  replace X := Lib.hid (X.out.below hb)
  clear hb
  replace X := Lib.hid (X.out.push #[.int .i64 p, .bool true, .slice none 0 0, .int .i64 0, .slice none 0 0, .int .i64 0, .slice none 0 0] 27)
  have x0 := X.out.1.at_ (g := w1.heap.size) (i := 0) (v := .int .i64 p) (cs := [.int .i64 p, .bool true, .slice none 0 0, .int .i64 0, .slice none 0 0, .int .i64 0, .slice none 0 0]) (by repeat (first | exact List.mem_cons_self | refine List.mem_cons_of_mem _ ?_)) rfl
  have x1 := X.out.1.at_ (g := w1.heap.size) (i := 1) (v := .bool true) (cs := [.int .i64 p, .bool true, .slice none 0 0, .int .i64 0, .slice none 0 0, .int .i64 0, .slice none 0 0]) (by repeat (first | exact List.mem_cons_self | refine List.mem_cons_of_mem _ ?_)) rfl
  have x2 := X.out.1.at_ (g := w1.heap.size) (i := 2) (v := .slice none 0 0) (cs := [.int .i64 p, .bool true, .slice none 0 0, .int .i64 0, .slice none 0 0, .int .i64 0, .slice none 0 0]) (by repeat (first | exact List.mem_cons_self | refine List.mem_cons_of_mem _ ?_)) rfl
  have x3 := X.out.1.at_ (g := w1.heap.size) (i := 3) (v := .int .i64 0) (cs := [.int .i64 p, .bool true, .slice none 0 0, .int .i64 0, .slice none 0 0, .int .i64 0, .slice none 0 0]) (by repeat (first | exact List.mem_cons_self | refine List.mem_cons_of_mem _ ?_)) rfl
  have x4 := X.out.1.at_ (g := w1.heap.size) (i := 4) (v := .slice none 0 0) (cs := [.int .i64 p, .bool true, .slice none 0 0, .int .i64 0, .slice none 0 0, .int .i64 0, .slice none 0 0]) (by repeat (first | exact List.mem_cons_self | refine List.mem_cons_of_mem _ ?_)) rfl
  have x5 := X.out.1.at_ (g := w1.heap.size) (i := 5) (v := .int .i64 0) (cs := [.int .i64 p, .bool true, .slice none 0 0, .int .i64 0, .slice none 0 0, .int .i64 0, .slice none 0 0]) (by repeat (first | exact List.mem_cons_self | refine List.mem_cons_of_mem _ ?_)) rfl
  have x6 := X.out.1.at_ (g := w1.heap.size) (i := 6) (v := .slice none 0 0) (cs := [.int .i64 p, .bool true, .slice none 0 0, .int .i64 0, .slice none 0 0, .int .i64 0, .slice none 0 0]) (by repeat (first | exact List.mem_cons_self | refine List.mem_cons_of_mem _ ?_)) rfl
  have y0 := X.out.1.at_ (g := w6.heap.size) (i := 0) (v := .int .i64 p) (cs := [.int .i64 p, .bool true, .slice none 0 0, .int .i64 0, .slice none 0 0, .int .i64 0, .slice none 0 0]) (by repeat (first | exact List.mem_cons_self | refine List.mem_cons_of_mem _ ?_)) rfl
  have y1 := X.out.1.at_ (g := w6.heap.size) (i := 1) (v := .bool true) (cs := [.int .i64 p, .bool true, .slice none 0 0, .int .i64 0, .slice none 0 0, .int .i64 0, .slice none 0 0]) (by repeat (first | exact List.mem_cons_self | refine List.mem_cons_of_mem _ ?_)) rfl
  have y2 := X.out.1.at_ (g := w6.heap.size) (i := 2) (v := .slice none 0 0) (cs := [.int .i64 p, .bool true, .slice none 0 0, .int .i64 0, .slice none 0 0, .int .i64 0, .slice none 0 0]) (by repeat (first | exact List.mem_cons_self | refine List.mem_cons_of_mem _ ?_)) rfl
  have y3 := X.out.1.at_ (g := w6.heap.size) (i := 3) (v := .int .i64 0) (cs := [.int .i64 p, .bool true, .slice none 0 0, .int .i64 0, .slice none 0 0, .int .i64 0, .slice none 0 0]) (by repeat (first | exact List.mem_cons_self | refine List.mem_cons_of_mem _ ?_)) rfl
  have y4 := X.out.1.at_ (g := w6.heap.size) (i := 4) (v := .slice none 0 0) (cs := [.int .i64 p, .bool true, .slice none 0 0, .int .i64 0, .slice none 0 0, .int .i64 0, .slice none 0 0]) (by repeat (first | exact List.mem_cons_self | refine List.mem_cons_of_mem _ ?_)) rfl
  have y5 := X.out.1.at_ (g := w6.heap.size) (i := 5) (v := .int .i64 0) (cs := [.int .i64 p, .bool true, .slice none 0 0, .int .i64 0, .slice none 0 0, .int .i64 0, .slice none 0 0]) (by repeat (first | exact List.mem_cons_self | refine List.mem_cons_of_mem _ ?_)) rfl
  have y6 := X.out.1.at_ (g := w6.heap.size) (i := 6) (v := .slice none 0 0) (cs := [.int .i64 p, .bool true, .slice none 0 0, .int .i64 0, .slice none 0 0, .int .i64 0, .slice none 0 0]) (by repeat (first | exact List.mem_cons_self | refine List.mem_cons_of_mem _ ?_)) rfl
  go_wp2_with fail
  refine (eqLinkNil p _).mono ?_
  rintro e w7 ⟨rfl, hb⟩
  replace X := Lib.hid (X.out.below hb)
  clear hb
  clear x0 x1 x2 x3 x4 x5 x6
  clear y0 y1 y2 y3 y4 y5 y6
  have y0 := X.out.1.at_ (g := w2.heap.size) (i := 0) (v := .int .i64 p) (cs := [.int .i64 p, .bool true, .slice none 0 0, .int .i64 0, .slice none 0 0, .int .i64 0, .slice none 0 0]) (by repeat (first | exact List.mem_cons_self | refine List.mem_cons_of_mem _ ?_)) rfl
  have y1 := X.out.1.at_ (g := w2.heap.size) (i := 1) (v := .bool true) (cs := [.int .i64 p, .bool true, .slice none 0 0, .int .i64 0, .slice none 0 0, .int .i64 0, .slice none 0 0]) (by repeat (first | exact List.mem_cons_self | refine List.mem_cons_of_mem _ ?_)) rfl
  have y2 := X.out.1.at_ (g := w2.heap.size) (i := 2) (v := .slice none 0 0) (cs := [.int .i64 p, .bool true, .slice none 0 0, .int .i64 0, .slice none 0 0, .int .i64 0, .slice none 0 0]) (by repeat (first | exact List.mem_cons_self | refine List.mem_cons_of_mem _ ?_)) rfl
  have y3 := X.out.1.at_ (g := w2.heap.size) (i := 3) (v := .int .i64 0) (cs := [.int .i64 p, .bool true, .slice none 0 0, .int .i64 0, .slice none 0 0, .int .i64 0, .slice none 0 0]) (by repeat (first | exact List.mem_cons_self | refine List.mem_cons_of_mem _ ?_)) rfl
  have y4 := X.out.1.at_ (g := w2.heap.size) (i := 4) (v := .slice none 0 0) (cs := [.int .i64 p, .bool true, .slice none 0 0, .int .i64 0, .slice none 0 0, .int .i64 0, .slice none 0 0]) (by repeat (first | exact List.mem_cons_self | refine List.mem_cons_of_mem _ ?_)) rfl
  have y5 := X.out.1.at_ (g := w2.heap.size) (i := 5) (v := .int .i64 0) (cs := [.int .i64 p, .bool true, .slice none 0 0, .int .i64 0, .slice none 0 0, .int .i64 0, .slice none 0 0]) (by repeat (first | exact List.mem_cons_self | refine List.mem_cons_of_mem _ ?_)) rfl
  have y6 := X.out.1.at_ (g := w2.heap.size) (i := 6) (v := .slice none 0 0) (cs := [.int .i64 p, .bool true, .slice none 0 0, .int .i64 0, .slice none 0 0, .int .i64 0, .slice none 0 0]) (by repeat (first | exact List.mem_cons_self | refine List.mem_cons_of_mem _ ?_)) rfl
  go_wp2_with fail
  refine (heldLinkNil p 1 _ (by omega) (by omega)).mono ?_
  rintro e w8 ⟨rfl, hb⟩
  replace X := Lib.hid (X.out.below hb)
  clear hb
  clear y0 y1 y2 y3 y4 y5 y6
  go_wp2_with fail
  go_ret
  exact GivesBool.ret X.out.low
end Go.Proofs.Ytdedioghljkflaa
