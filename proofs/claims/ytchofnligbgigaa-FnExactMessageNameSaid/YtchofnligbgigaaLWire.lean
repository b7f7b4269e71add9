/- Chapter 11: MessageName, both sides, and its exact law; IsWire's exact law. -/
import Derived.Test.YtchofnligbgigaaIsW
import Derived.LoopTactic
import Derived.Lib.Hide
import Derived.Deep.QuietTactic
import Derived.BigQuiet
import Derived.Deep.RegionWith
import Derived.Handy
namespace Go.Proofs.Ytchofnligbgigaa
open Go.RowKit
set_option linter.unusedVariables false
set_option linter.unusedSimpArgs false
/-- A kind's name. -/
def nameOfK (k : Int) : ByteArray := if k = 1 then ⟨#[99, 97, 108, 108]⟩ else if k = 2 then ⟨#[114, 101, 116, 117, 114, 110]⟩ else if k = 3 then ⟨#[101, 99, 104, 111]⟩ else if k = 4 then ⟨#[101, 99, 104, 111, 101, 100]⟩ else if k = 5 then ⟨#[102, 105, 110, 105, 115, 104]⟩ else if k = 6 then ⟨#[114, 101, 108, 101, 97, 115, 101]⟩ else ⟨#[]⟩
def GivesN (s : ByteArray) (w : World) (e : Ending) (w' : World) : Prop := e = .returned (.string s) ∧ Below w.heap.size w w'
theorem GivesN.of {s t : ByteArray} {w w' : World} (h : s = t) (hb : Below w.heap.size w w') : GivesN t w (.returned (.string s)) w' := ⟨by rw [h], hb⟩
set_option maxHeartbeats 2000000 in
theorem implMN (k : Int) (w : World) : Calls Try.prog 26 #[.int .i64 k] w (GivesN (nameOfK k) w) := by
  rcases hr : inR k 1 6 with _ | _
  · have HR := Lib.hid hr
    have HN : Hid ((⟨#[]⟩ : ByteArray) = nameOfK k) := Lib.hid (by simp [inR] at hr; unfold nameOfK; repeat (rw [if_neg (by omega)]))
    clear hr
    go_enter Try.func26, Try.ntmps26
    go_wp2_with ((with_reducible refine (implInR _ _ _ _).mono ?_); rintro e w1 ⟨rfl, rfl⟩; rw [HR.out])
    go_ret
    exact GivesN.of HN.out (by go_grown)
  · have hk : k = 1 ∨ k = 2 ∨ k = 3 ∨ k = 4 ∨ k = 5 ∨ k = 6 := by simp [inR] at hr; omega
    have HR := Lib.hid hr
    clear hr
    rcases hk with rfl | rfl | rfl | rfl | rfl | rfl
    all_goals (
      go_enter Try.func26, Try.ntmps26
      go_wp2_with ((with_reducible refine (implInR _ _ _ _).mono ?_); rintro e w1 ⟨rfl, rfl⟩; rw [HR.out])
      go_ret
      exact GivesN.of rfl (by go_grown))
set_option maxHeartbeats 2000000 in
theorem specMN (k : Int) (w : World) : Calls Try.prog 25 #[.int .i64 k] w (GivesN (nameOfK k) w) := by
  rcases hr : inR k 1 6 with _ | _
  · have HR := Lib.hid hr
    have HN : Hid ((⟨#[]⟩ : ByteArray) = nameOfK k) := Lib.hid (by simp [inR] at hr; unfold nameOfK; repeat (rw [if_neg (by omega)]))
    clear hr
    go_enter Try.func25, Try.ntmps25
    go_wp2_with ((with_reducible refine (specInR _ _ _ _).mono ?_); rintro e w1 ⟨rfl, rfl⟩; rw [HR.out])
    go_ret
    exact GivesN.of HN.out (by go_grown)
  · have hk : k = 1 ∨ k = 2 ∨ k = 3 ∨ k = 4 ∨ k = 5 ∨ k = 6 := by simp [inR] at hr; omega
    have HR := Lib.hid hr
    clear hr
    rcases hk with rfl | rfl | rfl | rfl | rfl | rfl
    all_goals (
      go_enter Try.func25, Try.ntmps25
      go_wp2_with ((with_reducible refine (specInR _ _ _ _).mono ?_); rintro e w1 ⟨rfl, rfl⟩; rw [HR.out])
      go_ret
      exact GivesN.of rfl (by go_grown))
theorem law_MessageName (a : Int) (W : World) : Calls Try.prog 6 #[.int .i64 a] W (GivesBool true W) := by
  go_enter Try.func6, Try.ntmps6
  go_wp2_with fail
  refine (specMN a _).mono ?_
  rintro e w1 ⟨rfl, hb1⟩
  have B1 := Lib.hid hb1
  clear hb1
  go_wp2_with fail
  refine (implMN a _).mono ?_
  rintro e w2 ⟨rfl, hb2⟩
  have B2 := Lib.hid (B1.out.trans (hb2.mono B1.out.size))
  clear hb2
  go_wp2_with fail
  go_ret
  exact GivesBool.ret B2.out
theorem law_IsWire (f0 f1 : Int) (W : World) : Calls Try.prog 4 #[.agg #[.int .i64 f0, .int .i64 f1]] W (GivesBool true W) := by
  have X := (Held.start W).push #[.int .i64 f0, .int .i64 f1] 39
  replace X := Lib.hid X
  go_enter Try.func4, Try.ntmps4
  have x0 := X.out.at_ (g := W.heap.size) (i := 0) (v := .int .i64 f0) (cs := [.int .i64 f0, .int .i64 f1]) (by repeat (first | exact List.mem_cons_self | refine List.mem_cons_of_mem _ ?_)) rfl
  have x1 := X.out.at_ (g := W.heap.size) (i := 1) (v := .int .i64 f1) (cs := [.int .i64 f0, .int .i64 f1]) (by repeat (first | exact List.mem_cons_self | refine List.mem_cons_of_mem _ ?_)) rfl
  go_wp2_with fail
  refine (toWire f0 f1 _).mono ?_
  rintro e w1 ⟨rfl, hb⟩
  clear x0 x1
  replace X := Lib.hid (X.out.below hb)
  clear hb
  go_wp2_with fail
  refine (specIsW f0 f1 _).mono ?_
  rintro e w2 ⟨rfl, hb⟩
  replace X := Lib.hid (X.out.below hb)
  clear hb
  have x0 := X.out.at_ (g := W.heap.size) (i := 0) (v := .int .i64 f0) (cs := [.int .i64 f0, .int .i64 f1]) (by repeat (first | exact List.mem_cons_self | refine List.mem_cons_of_mem _ ?_)) rfl
  have x1 := X.out.at_ (g := W.heap.size) (i := 1) (v := .int .i64 f1) (cs := [.int .i64 f0, .int .i64 f1]) (by repeat (first | exact List.mem_cons_self | refine List.mem_cons_of_mem _ ?_)) rfl
  go_wp2_with fail
  refine (toWire f0 f1 _).mono ?_
  rintro e w3 ⟨rfl, hb⟩
  clear x0 x1
  replace X := Lib.hid (X.out.below hb)
  clear hb
  go_wp2_with fail
  refine (implIsW f0 f1 _).mono ?_
  rintro e w4 ⟨rfl, hb⟩
  replace X := Lib.hid (X.out.below hb)
  clear hb
  go_wp2_with fail
  go_ret
  exact GivesBool.ret X.out.1
end Go.Proofs.Ytchofnligbgigaa
