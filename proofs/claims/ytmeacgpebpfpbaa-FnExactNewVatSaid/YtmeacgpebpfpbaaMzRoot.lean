/- Chapter 12: the link of a new vat to a peer. Of no program: a new vat's data. -/
import Derived.Test.YtmeacgpebpfpbaaLNew
import Derived.Test.YtmeacgpebpfpbaaLnkXI
import Derived.Test.YtmeacgpebpfpbaaLnkXS
import Derived.Test.YtmeacgpebpfpbaaMzLnkC
import Derived.Test.YtmeacgpebpfpbaaHeldZ
import Derived.Deep.RegionHeld3
import Derived.Deep.RegionLaw
import Derived.Deep.Cut
import Derived.LoopTactic
import Derived.Lib.Hide
import Derived.Deep.QuietTactic
import Derived.BigQuiet
import Derived.Deep.RegionWith
import Derived.Handy
import Derived.Test.YtmeacgpebpfpbaaTyV1
import Derived.Test.YtmeacgpebpfpbaaVatX
section
namespace Go.Proofs.Ytmeacgpebpfpbaa
open Go.RowKit
set_option linter.unusedVariables false
set_option linter.unusedSimpArgs false
theorem w64one : wrap64 (0 + 1) = 1 := by unfold wrap64; omega
theorem Lies.none_ (w : World) : Lies w (.l []) [.slice none 0 0] := by
  rw [Lies]
  simp [LiesAll]
theorem implRootP (p : Int) (w : World) : Calls Try.prog 125 #[.agg #[.int .i64 p, .bool true, .slice none 0 0, .int .i64 0, .slice none 0 0, .int .i64 0, .slice none 0 0], .int .i64 0] w (GivesLI p true [.r [.i 1, .i 0, .i 1]] 1 1 [] 0 0 [] 0 1 w) := by
  have h := implPutE p true [] none 0 0 0 [] none 0 0 0 [] none 0 0 0 w (Lies.none_ w) (fun x h => by cases h) (Lies.none_ w) (fun x h => by cases h) (Lies.none_ w) (fun x h => by cases h) (by omega) (by omega) (by omega)
  have e1 : putL 0 (wrap64 (0 + 1)) [] = [.r [.i 1, .i 0, .i 1]] := by rw [w64one]; rfl
  have e2 : putN 0 0 [] = 1 := by rw [putN, if_neg (by simp [idx, idxFrom]), w64one]
  have e3 : putP 0 (wrap64 (0 + 1)) [] = 1 := by rw [w64one]; rfl
  rw [e1, e2, e3] at h
  exact h
theorem specRootP (p : Int) (w : World) : Calls Try.prog 70 #[.agg #[.int .i64 p, .bool true, .slice none 0 0, .int .i64 0, .slice none 0 0, .int .i64 0, .slice none 0 0], .int .i64 0] w (GivesLI p true [.r [.i 1, .i 0, .i 1]] 1 1 [] 0 0 [] 0 1 w) := by
  have h := specPutE p true [] none 0 0 0 [] none 0 0 0 [] none 0 0 0 w (Lies.none_ w) (fun x h => by cases h) (Lies.none_ w) (fun x h => by cases h) (Lies.none_ w) (fun x h => by cases h) (by omega) (by omega) (by omega)
  have e1 : putL 0 (wrap64 (0 + 1)) [] = [.r [.i 1, .i 0, .i 1]] := by rw [w64one]; rfl
  have e2 : putN 0 0 [] = 1 := by rw [putN, if_neg (by simp [idx, idxFrom]), w64one]
  have e3 : putP 0 (wrap64 (0 + 1)) [] = 1 := by rw [w64one]; rfl
  rw [e1, e2, e3] at h
  exact h
def GivesRoot (p : Int) (w : World) (e : Ending) (w' : World) : Prop := CopLink p true [.r [.i 1, .i 0, .i 1]] 1 1 [] 0 0 [] 0 w e w'
set_option maxRecDepth 100000 in
set_option maxHeartbeats 4000000 in
theorem implRoot (p : Int) (w : World) : Calls Try.prog 57 #[.int .i64 p] w (GivesRoot p w) := by
  have HB : Hid (Below w.heap.size w (w.alloc (.cells #[.int .i64 0, .bool false, .slice none 0 0, .int .i64 0, .slice none 0 0, .int .i64 0, .slice none 0 0] 97))) := Lib.hid ((Below.refl _ _).alloc (Nat.le_refl _) _)
  have Z : Hid (Zx w.heap.size [.int .i64 0, .bool false, .slice none 0 0, .int .i64 0, .slice none 0 0, .int .i64 0, .slice none 0 0] (w.alloc (.cells #[.int .i64 0, .bool false, .slice none 0 0, .int .i64 0, .slice none 0 0, .int .i64 0, .slice none 0 0] 97))) := Lib.hid (Zx.new w #[.int .i64 0, .bool false, .slice none 0 0, .int .i64 0, .slice none 0 0, .int .i64 0, .slice none 0 0] 97)
  obtain ⟨z0, z1, z2, z3, z4, z5, z6, zf⟩ := Z.out.d7
  clear z0 z1 z2 z3 z4 z5 z6 zf
  go_enter Try.func57, Try.ntmps57
  go_wp2_with fail
  refine (implNewLink _ p).mono ?_
  rintro e w1 ⟨rfl, hb⟩
  have h0 : w.heap.size + 1 ≤ w1.heap.size := by have h1 := hb.size; simp only [World.size_alloc] at h1; exact h1
  replace Z := Lib.hid (Z.out.below hb)
  replace HB := Lib.hid (HB.out.trans (hb.mono HB.out.size))
  clear hb
  go_wp2_with fail
  refine (implRootP p _).mono ?_
  rintro e w2 ⟨B2, k2, B4, k4, B6, k6, rfl, hL, hb⟩
  obtain ⟨B2', k2', B4', k4', B6', k6', he, hO, -⟩ := CopLink.of (e := .returned (.agg #[.int .i64 p, .bool true, .slice B2 1 k2, .int .i64 1, .slice B4 0 k4, .int .i64 0, .slice B6 0 k6])) ⟨B2, k2, B4, k4, B6, k6, rfl, hL, hb⟩
  injection he with he
  injection he with he
  simp only [Array.mk.injEq, List.cons.injEq, Value.slice.injEq, true_and, and_true] at he
  obtain ⟨⟨rfl, rfl⟩, ⟨rfl, rfl⟩, rfl, rfl⟩ := he
  have h2 := hb.size
  replace Z := Lib.hid (Z.out.below hb)
  replace HB := Lib.hid (HB.out.trans (hb.mono HB.out.size))
  have HO := Lib.hid (hO.below ((Below.refl _ _).alloc (Nat.le_refl _) (.cells #[.int .i64 p, .bool true, .slice B2 1 k2, .int .i64 1, .slice B4 0 k4, .int .i64 0, .slice B6 0 k6] 97)))
  replace Z := Lib.hid (Z.out.below ((Below.refl _ _).alloc (Nat.le_refl _) (.cells #[.int .i64 p, .bool true, .slice B2 1 k2, .int .i64 1, .slice B4 0 k4, .int .i64 0, .slice B6 0 k6] 97)))
  replace HB := Lib.hid (HB.out.alloc HB.out.size (.cells #[.int .i64 p, .bool true, .slice B2 1 k2, .int .i64 1, .slice B4 0 k4, .int .i64 0, .slice B6 0 k6] 97))
  have Y := Lib.hid (Zx.new w2 #[.int .i64 p, .bool true, .slice B2 1 k2, .int .i64 1, .slice B4 0 k4, .int .i64 0, .slice B6 0 k6] 97)
  clear hO hL hb
  have h3 : w2.heap.size + 1 ≤ (w2.alloc (.cells #[.int .i64 p, .bool true, .slice B2 1 k2, .int .i64 1, .slice B4 0 k4, .int .i64 0, .slice B6 0 k6] 97)).heap.size := by simp
  go_upto_region 2 with (fail)
  generalize (w2.alloc (.cells #[.int .i64 p, .bool true, .slice B2 1 k2, .int .i64 1, .slice B4 0 k4, .int .i64 0, .slice B6 0 k6] 97)) = w3 at *
  obtain ⟨z0, z1, z2, z3, z4, z5, z6, zf⟩ := Z.out.d7
  obtain ⟨y0, y1, y2, y3, y4, y5, y6, yf⟩ := Y.out.d7
  go_wp2_with fail
  refine bodyPost_ret (v := .agg #[.int .i64 p, .bool true, .slice B2 1 k2, .int .i64 1, .slice B4 0 k4, .int .i64 0, .slice B6 0 k6]) ?hres rfl ?hpost
  case hres => exact results_box rfl _ _ (w.heap.size) [.int .i64 p, .bool true, .slice B2 1 k2, .int .i64 1, .slice B4 0 k4, .int .i64 0, .slice B6 0 k6] _ rfl (((((((Z.out.1.put 0 _).put 1 _).put 2 _).put 3 _).put 4 _).put 5 _).put 6 _) Try.underlying97 rfl (by kernel_rfl)
  case hpost =>
    suffices h9 : ∀ w' : World, Touch (fun b => b = w.heap.size) w3 w' → GivesRoot p w (.returned (.agg #[.int .i64 p, .bool true, .slice B2 1 k2, .int .i64 1, .slice B4 0 k4, .int .i64 0, .slice B6 0 k6])) w' from h9 _ ((((((((Touch.refl (fun b => b = w.heap.size) w3).setCell (p := ⟨w.heap.size, 0, none⟩) rfl _).setCell (p := ⟨w.heap.size, 1, none⟩) rfl _).setCell (p := ⟨w.heap.size, 2, none⟩) rfl _).setCell (p := ⟨w.heap.size, 3, none⟩) rfl _).setCell (p := ⟨w.heap.size, 4, none⟩) rfl _).setCell (p := ⟨w.heap.size, 5, none⟩) rfl _).setCell (p := ⟨w.heap.size, 6, none⟩) rfl _)
    intro w' hT
    have h4 := hT.size
    exact ⟨B2, k2, B4, k4, B6, k6, rfl, (HO.out.touch hT (fun b hb e => by have h1 := hb.1; omega)).mono (fun b hb => ⟨by have h1 := hb.1; omega, by have h1 := hb.2; omega⟩), HB.out.trans (hT.below (fun b e => by omega) HB.out.size)⟩
def GivesRootI (p : Int) (w : World) (e : Ending) (w' : World) : Prop := ∃ (B2 : Option Addr) (k2 : Nat) (B4 : Option Addr) (k4 : Nat) (B6 : Option Addr) (k6 : Nat), e = .returned (.tuple #[.agg #[.int .i64 p, .bool true, .slice B2 1 k2, .int .i64 1, .slice B4 0 k4, .int .i64 0, .slice B6 0 k6], .int .i64 1]) ∧ Owns w' (.r [.i p, .b true, .l [.r [.i 1, .i 0, .i 1]], .i 1, .l [], .i 0, .l []]) [.int .i64 p, .bool true, .slice B2 1 k2, .int .i64 1, .slice B4 0 k4, .int .i64 0, .slice B6 0 k6] (rng w.heap.size w'.heap.size) ∧ Below w.heap.size w w'
theorem GivesRootI.of {p : Int} {w w' : World} {e : Ending} (h : GivesLI p true [.r [.i 1, .i 0, .i 1]] 1 1 [] 0 0 [] 0 1 w e w') : GivesRootI p w e w' := by
  obtain ⟨B2, k2, B4, k4, B6, k6, rfl, hL, hb⟩ := h
  obtain ⟨B2', k2', B4', k4', B6', k6', he, hO, -⟩ := CopLink.of (e := .returned (.agg #[.int .i64 p, .bool true, .slice B2 1 k2, .int .i64 1, .slice B4 0 k4, .int .i64 0, .slice B6 0 k6])) ⟨B2, k2, B4, k4, B6, k6, rfl, hL, hb⟩
  injection he with he
  injection he with he
  simp only [Array.mk.injEq, List.cons.injEq, Value.slice.injEq, true_and, and_true] at he
  obtain ⟨⟨rfl, rfl⟩, ⟨rfl, rfl⟩, rfl, rfl⟩ := he
  exact ⟨B2, k2, B4, k4, B6, k6, rfl, hO, hb⟩
theorem specRootI (p : Int) (w : World) : Calls Try.prog 70 #[.agg #[.int .i64 p, .bool true, .slice none 0 0, .int .i64 0, .slice none 0 0, .int .i64 0, .slice none 0 0], .int .i64 0] w (GivesRootI p w) := (specRootP p w).mono (fun e w' h => GivesRootI.of h)
end Go.Proofs.Ytmeacgpebpfpbaa
end
section
namespace Go.Proofs.Ytmeacgpebpfpbaa
open Go.RowKit
set_option linter.unusedVariables false
set_option linter.unusedSimpArgs false
def objD (s : Int) : Dat := .r [.i 1, .i s, .l [], .i 0, .r [.i 0, .i 0], .l [], .l [], .i 0, .i 0, .i 0, .i 0]
def proxD (p : Int) : Dat := .r [.i 3, .i 0, .l [], .i 0, .r [.i 0, .i 0], .l [], .l [], .i p, .i 1, .i 1, .i 0]
def rootD (p : Int) : Dat := .r [.i p, .b true, .l [.r [.i 1, .i 0, .i 1]], .i 1, .l [], .i 0, .l []]
theorem ownObj {w : World} {s : Int} {A : Option Addr} {n c : Nat} {lo hi : Nat} (h : Owns w (.l []) [.slice A n c] (rng lo hi)) (hl : lo ≤ hi) : Owns w (objD s) [.int .i64 1, .int .i64 s, .slice A n c, .int .i64 0, .int .i64 0, .int .i64 0, .slice none 0 0, .slice none 0 0, .int .i64 0, .int .i64 0, .int .i64 0, .int .i64 0] (rng lo hi) :=
  ownEntity h (Hold.nil 153 7 w _).owns (Hold.nil 119 2 w _).owns hl (Nat.le_refl _) (Nat.le_refl _)
theorem ownProx (w : World) (p : Int) (m : Nat) : Owns w (proxD p) [.int .i64 3, .int .i64 0, .slice none 0 0, .int .i64 0, .int .i64 0, .int .i64 0, .slice none 0 0, .slice none 0 0, .int .i64 p, .int .i64 1, .int .i64 1, .int .i64 0] (rng m m) :=
  ownEntity (Hold.nil 31 2 w _).owns (Hold.nil 153 7 w _).owns (Hold.nil 119 2 w _).owns (Nat.le_refl _) (Nat.le_refl _) (Nat.le_refl _)
theorem Grow.lit1 {E : TypeId} {k : Nat} {w : World} {d : Dat} {xs : List Value} {C : Array Value} {B : Nat → Prop} (hC : C.toList = xs) (ho : Owns w d xs B) (hw : d.width = k) (hB : ∀ b, B b → b < w.heap.size) : Grow E k w.heap.size (w.alloc (.cells C E)) (some ⟨w.heap.size, 0, none⟩) 1 1 [d] B := by
  have hl : xs.length = k := by rw [ho.lies.len, hw]
  have hs : C.size = k := by rw [← Array.length_toList, hC, hl]
  have hb : Below w.heap.size w (w.alloc (.cells C E)) := (Below.refl _ _).alloc (Nat.le_refl _) _
  refine ⟨xs, ⟨by rw [hl, Nat.one_mul], Or.inr ⟨w.heap.size, 1, C, rfl, Nat.le_refl _, ?_, Nat.le_refl _, by unfold maxLen; omega, by rw [hs, Nat.one_mul], by rw [hC, Nat.one_mul, ← hl, List.take_length]⟩⟩, ?_, rfl, (fun x hx => by rw [List.mem_singleton.1 hx]; exact hw), (fun a e => ⟨fun h => ?_, ?_⟩), (fun b h => Nat.lt_of_lt_of_le (hB b h) hb.size)⟩
  · show (w.heap.push _)[w.heap.size]? = _
    simp
  · rw [OwnsAll]
    exact ⟨xs, [], B, (fun _ => False), (List.append_nil _).symm, fun b h => h, fun b h => h.elim, fun b _ h => h, ho.below hb, by rw [OwnsAll]⟩
  · obtain rfl := Option.some.inj e
    exact Nat.lt_irrefl _ (hB _ h)
  · obtain rfl := Option.some.inj e
    simp
theorem VatX.one {w : World} {d : Dat} {xs : List Value} {C : Array Value} {B : Nat → Prop} {lo : Nat} (hC : C.toList = xs) (ho : Owns w d xs B) (hw : d.width = 12) (hB : ∀ b, B b → lo ≤ b ∧ b < w.heap.size) (hlo : lo ≤ w.heap.size) : VatX (fun b => lo ≤ b ∧ b < w.heap.size + 1) (w.alloc (.cells C 38)) [d] (some ⟨w.heap.size, 0, none⟩) 1 1 [] none 0 0 [] none 0 0 [] none 0 0 :=
  ⟨(fun b => lo ≤ b ∧ b < w.heap.size + 1), (fun _ => False), (fun _ => False), (fun _ => False), ⟨Hold.of_grow (Grow.lit1 hC ho hw (fun b hb => (hB b hb).2)) (fun b h1 h2 => ⟨by omega, by simpa using h2⟩) (fun b hb => ⟨(hB b hb).1, by have := (hB b hb).2; omega⟩), Hold.nil _ _ _ _, Hold.nil _ _ _ _, Hold.nil _ _ _ _⟩,
    ⟨fun b _ h => h, fun b _ h => h, fun b _ h => h, fun b _ h => h, fun b _ h => h, fun b _ h => h⟩, ⟨fun b h => h, fun b h => h.elim, fun b h => h.elim, fun b h => h.elim⟩⟩
theorem take_mapI {zs : List Int} {i : Nat} {z : Int} (f : Int → Dat) (h : zs[i]? = some z) : (zs.take (i + 1)).map f = (zs.take i).map f ++ [f z] := by
  rw [List.take_add_one, h, List.map_append]; rfl
end Go.Proofs.Ytmeacgpebpfpbaa
end
