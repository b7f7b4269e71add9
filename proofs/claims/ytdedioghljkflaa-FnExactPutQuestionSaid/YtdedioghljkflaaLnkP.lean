/- Chapter 10: PutQuestion, both sides. -/
import Derived.Test.YtdedioghljkflaaLnkC
import Derived.Deep.RegionHeld3
import Derived.Deep.RegionLaw
import Derived.Deep.Cut
import Derived.LoopTactic
import Derived.Lib.Hide
import Derived.Deep.QuietTactic
import Derived.BigQuiet
import Derived.Deep.RegionWith
import Derived.Handy
namespace Go.Proofs.Ytdedioghljkflaa
open Go.RowKit
set_option linter.unusedVariables false
set_option linter.unusedSimpArgs false
theorem Zx.put7 {g : Nat} {w : World} {v0 v1 v2 v3 v4 v5 v6 u0 u1 u2 u3 u4 u5 u6 : Value} (h : Zx g [u0, u1, u2, u3, u4, u5, u6] w) : Zx g [v0, v1, v2, v3, v4, v5, v6] (((((((w.setCell ⟨g, 0, none⟩ v0).setCell ⟨g, 1, none⟩ v1).setCell ⟨g, 2, none⟩ v2).setCell ⟨g, 3, none⟩ v3).setCell ⟨g, 4, none⟩ v4).setCell ⟨g, 5, none⟩ v5).setCell ⟨g, 6, none⟩ v6) := (((((((h.put 0 v0).put 1 v1).put 2 v2).put 3 v3).put 4 v4).put 5 v5).put 6 v6)
theorem Zx.box {g : Nat} {cs : List Value} {w : World} (h : Zx g cs w) : Box g cs w := h.1
theorem Zx.drewB {g : Nat} {cs : List Value} {w : World} (h : Zx g cs w) : Zx g cs w.drew := h.below (Below.refl _ _).drew
theorem Touch.put7 {g : Nat} {S : Nat → Prop} {a w : World} {v0 v1 v2 v3 v4 v5 v6 : Value} (h : Touch S a w) (hg : S g) : Touch S a (((((((w.setCell ⟨g, 0, none⟩ v0).setCell ⟨g, 1, none⟩ v1).setCell ⟨g, 2, none⟩ v2).setCell ⟨g, 3, none⟩ v3).setCell ⟨g, 4, none⟩ v4).setCell ⟨g, 5, none⟩ v5).setCell ⟨g, 6, none⟩ v6) := (((((((h.setCell (p := ⟨g, 0, none⟩) hg v0).setCell (p := ⟨g, 1, none⟩) hg v1).setCell (p := ⟨g, 2, none⟩) hg v2).setCell (p := ⟨g, 3, none⟩) hg v3).setCell (p := ⟨g, 4, none⟩) hg v4).setCell (p := ⟨g, 5, none⟩) hg v5).setCell (p := ⟨g, 6, none⟩) hg v6)
theorem Src.litK {w : World} {E : TypeId} {C : Array Value} {d : Dat} {k : Nat} (hI : Ic k d) (hC : ic d = C.toList) : Src k (w.alloc (.cells C E)) (some ⟨w.heap.size, 0, none⟩) 1 [d] (fun _ => False) :=
  Src.lit (B := fun _ => False) hC.symm (Lies.owns hI.flat ((hI.lies w _).2 rfl)) hI.width (fun b h => h.elim)
theorem Apart.grown {A B C : Option Addr} {m : Nat} (h : Apart A B) (hA : ∀ a, C = some a → B = some a ∨ m ≤ a.block) (hl : ∀ a, A = some a → a.block < m) : Apart A C := fun a a' e e' x => by
  rcases hA a' e' with h1 | h1
  · exact h a a' e h1 x
  · have := hl a e
    omega
theorem Grow.apart_touch {E : TypeId} {k lo : Nat} {w w' : World} {A A' : Option Addr} {n c : Nat} {L : List Dat} (h : Grow E k lo w A n c L (fun _ => False)) (hp : Apart A A') (ht : Touch (fun b => ∃ a, A' = some a ∧ b = a.block) w w') : Grow E k lo w' A n c L (fun _ => False) :=
  h.touch ht (fun a e ⟨a', e', hx⟩ => hp a a' e e' hx) (fun _ h => h.elim)
theorem Grow.elem1 {E : TypeId} {k lo : Nat} {w : World} {g : Nat} {n c i : Nat} {L : List Dat} {d : Dat} (h : Grow E k lo w (some ⟨g, 0, none⟩) n c L (fun _ => False)) (hI : ∀ x ∈ L, Ic k x) (hd : L[i]? = some d) :
    (∀ (j : Nat) (v : Value), (ic d)[j]? = some v → w.cell? ⟨g, i * k + j, none⟩ = some v) ∧ (∀ o, w.frozen? ⟨g, o, none⟩ = false) ∧ g < w.heap.size := by
  obtain ⟨g', e, h1, h2, h3, h4, h5⟩ := h.elem hI hd
  obtain rfl : g = g' := by injection e with e; injection e
  exact ⟨h4, h5, h2⟩
theorem results_box2 {P : Program} {fn : Func} {p q : Tmp} {ty : TypeId} (h : fn.results = #[.cell p ty, .tmp q]) (tmps : Array Value) (w : World) (g : Nat) (cs : List Value) (v : Value) (d : TypeDesc)
    (hp : tmps.getD p undef = .pointer (some ⟨g, 0, none⟩)) (hq : tmps.getD q undef = v) (hc : Box g cs w)
    (hu : P.underlying ty = some d) (hd : d.isRow = true) (hi : (P.info? ty).map (·.size) = some cs.length) :
    (results fn tmps).run P w = .ok (.tuple #[.agg cs.toArray, v]) w := by
  have hp' : tmps[p]?.getD undef = .pointer (some ⟨g, 0, none⟩) := by simpa using hp
  have hq' : tmps[q]?.getD undef = v := by simpa using hq
  simp [results, h, hp', hq', asAddr, run_loadVar_mid w g 0 ty cs d hc.range hu hd hi]
/-- A link of its own and an integer come back. -/
def GivesLI (f0 : Int) (f1 : Bool) (L2 : List Dat) (n2 : Nat) (f3 : Int) (L4 : List Dat) (n4 : Nat) (f5 : Int) (L6 : List Dat) (n6 : Nat) (v : Int) (w : World) (e : Ending) (w' : World) : Prop :=
  ∃ (B2 : Option Addr) (k2 : Nat) (B4 : Option Addr) (k4 : Nat) (B6 : Option Addr) (k6 : Nat), e = .returned (.tuple #[.agg #[.int .i64 f0, .bool f1, .slice B2 n2 k2, .int .i64 f3, .slice B4 n4 k4, .int .i64 f5, .slice B6 n6 k6], .int .i64 v]) ∧ Link3 w.heap.size w' L2 B2 n2 k2 L4 B4 n4 k4 L6 B6 n6 k6 ∧ Below w.heap.size w w'
theorem Link3.fin {W w w' : World} {g lo : Nat} {L2 : List Dat} {B2 : Option Addr} {n2 k2 : Nat} {L4 : List Dat} {B4 : Option Addr} {n4 k4 : Nat} {L6 : List Dat} {B6 : Option Addr} {n6 k6 : Nat} (h2 : Grow 54 3 lo w B2 n2 k2 L2 (fun _ => False)) (h4 : Grow 60 2 lo w B4 n4 k4 L4 (fun _ => False)) (h6 : Grow 60 2 lo w B6 n6 k6 L6 (fun _ => False)) (p24 : Apart B2 B4) (p26 : Apart B2 B6) (p46 : Apart B4 B6)
    (hT : Touch (fun b => b = g) w w') (hB : Below W.heap.size W w) (hg : W.heap.size ≤ g) (hlo : g < lo) : Link3 W.heap.size w' L2 B2 n2 k2 L4 B4 n4 k4 L6 B6 n6 k6 ∧ Below W.heap.size W w' := by
  have up : ∀ {E : TypeId} {k : Nat} {A : Option Addr} {n c : Nat} {L : List Dat}, Grow E k lo w A n c L (fun _ => False) → Grow E k W.heap.size w' A n c L (fun _ => False) := fun h =>
    (h.touch hT (fun a e hS => by have h1 := (h.blkF a e).1; omega) (fun _ h => h.elim)).moreF (fun a e => by have h1 := (h.blkF a e).1; omega)
  exact ⟨⟨up h2, up h4, up h6, p24, p26, p46⟩, hB.trans (hT.below (fun b h => by rw [h]; exact hg) hB.size)⟩
set_option maxRecDepth 100000 in
set_option maxHeartbeats 16000000 in
theorem implPutQ (f0 : Int) (f1 : Bool) (L2 : List Dat) (A2 : Option Addr) (n2 c2 : Nat) (f3 : Int) (L4 : List Dat) (A4 : Option Addr) (n4 c4 : Nat) (f5 : Int) (L6 : List Dat) (A6 : Option Addr) (n6 c6 : Nat) (x : Int) (w : World) (hl2 : Lies w (.l L2) [.slice A2 n2 c2]) (ht2 : ∀ x ∈ L2, Has tyExport x) (hl4 : Lies w (.l L4) [.slice A4 n4 c4]) (ht4 : ∀ x ∈ L4, Has tyQuestion x) (hl6 : Lies w (.l L6) [.slice A6 n6 c6]) (ht6 : ∀ x ∈ L6, Has tyQuestion x) (hn2 : n2 ≤ 1099511627776) (hn4 : n4 ≤ 1099511627776) (hn6 : n6 ≤ 1099511627776) :
    Calls Try.prog 21 #[.agg #[.int .i64 f0, .bool f1, .slice A2 n2 c2, .int .i64 f3, .slice A4 n4 c4, .int .i64 f5, .slice A6 n6 c6], .int .i64 x] w (GivesLI f0 f1 L2 n2 f3 (L4 ++ [.r [.i (wrap64 (f5 + 1)), .i x]]) (n4 + 1) (wrap64 (f5 + 1)) L6 n6 (wrap64 (f5 + 1)) w) := by
  have HL2 := Lib.hid hl2
  have HT2 := Lib.hid ht2
  have HL4 := Lib.hid hl4
  have HT4 := Lib.hid ht4
  have HL6 := Lib.hid hl6
  have HT6 := Lib.hid ht6
  clear hl2 hl4 hl6 ht2 ht4 ht6
  obtain ⟨i0, hi, hz0, hz1, hz2⟩ := info_parts infoExport
  obtain ⟨i1, hj, hy0, hy1, hy2⟩ := info_parts infoQuestion
  have HB : Hid (Below w.heap.size w w) := Lib.hid (Below.refl _ _)
  have Zl : Hid (Zx (w.heap.size) [.int .i64 f0, .bool f1, .slice A2 n2 c2, .int .i64 f3, .slice A4 n4 c4, .int .i64 f5, .slice A6 n6 c6] (w.alloc (.cells #[.int .i64 f0, .bool f1, .slice A2 n2 c2, .int .i64 f3, .slice A4 n4 c4, .int .i64 f5, .slice A6 n6 c6] 27))) := Lib.hid (Zx.new _ _ _)
  replace HB : Hid (Below w.heap.size w (w.alloc (.cells #[.int .i64 f0, .bool f1, .slice A2 n2 c2, .int .i64 f3, .slice A4 n4 c4, .int .i64 f5, .slice A6 n6 c6] 27))) := Lib.hid (HB.out.alloc HB.out.size _)
  replace Zl : Hid (Zx (w.heap.size) [.int .i64 f0, .bool f1, .slice A2 n2 c2, .int .i64 f3, .slice A4 n4 c4, .int .i64 f5, .slice A6 n6 c6] ((w.alloc (.cells #[.int .i64 f0, .bool f1, .slice A2 n2 c2, .int .i64 f3, .slice A4 n4 c4, .int .i64 f5, .slice A6 n6 c6] 27)).alloc (.cells #[.int .i64 0, .bool false, .slice none 0 0, .int .i64 0, .slice none 0 0, .int .i64 0, .slice none 0 0] 27))) := Lib.hid (Zl.out.below ((Below.refl _ _).alloc (Nat.le_refl _) _))
  have Zr : Hid (Zx (w.heap.size + 1) [.int .i64 0, .bool false, .slice none 0 0, .int .i64 0, .slice none 0 0, .int .i64 0, .slice none 0 0] ((w.alloc (.cells #[.int .i64 f0, .bool f1, .slice A2 n2 c2, .int .i64 f3, .slice A4 n4 c4, .int .i64 f5, .slice A6 n6 c6] 27)).alloc (.cells #[.int .i64 0, .bool false, .slice none 0 0, .int .i64 0, .slice none 0 0, .int .i64 0, .slice none 0 0] 27))) := Lib.hid (by have h1 := Zx.new (w.alloc (.cells #[.int .i64 f0, .bool f1, .slice A2 n2 c2, .int .i64 f3, .slice A4 n4 c4, .int .i64 f5, .slice A6 n6 c6] 27)) #[.int .i64 0, .bool false, .slice none 0 0, .int .i64 0, .slice none 0 0, .int .i64 0, .slice none 0 0] 27; (try simp only [World.size_alloc, World.size_setCell] at h1); exact h1)
  replace HB : Hid (Below w.heap.size w ((w.alloc (.cells #[.int .i64 f0, .bool f1, .slice A2 n2 c2, .int .i64 f3, .slice A4 n4 c4, .int .i64 f5, .slice A6 n6 c6] 27)).alloc (.cells #[.int .i64 0, .bool false, .slice none 0 0, .int .i64 0, .slice none 0 0, .int .i64 0, .slice none 0 0] 27))) := Lib.hid (HB.out.alloc HB.out.size _)
  go_enter Try.func21, Try.ntmps21
  go_wp2_with fail
  refine (implCopy f0 f1 L2 A2 n2 c2 f3 L4 A4 n4 c4 f5 L6 A6 n6 c6 _ (HL2.out.below HB.out) HT2.out (HL4.out.below HB.out) HT4.out (HL6.out.below HB.out) HT6.out hn2 hn4 hn6).mono ?_
  rintro e w1 ⟨B2, k2, B4, k4, B6, k6, rfl, hK, hb⟩
  replace Zl : Hid (Zx (w.heap.size) [.int .i64 f0, .bool f1, .slice A2 n2 c2, .int .i64 f3, .slice A4 n4 c4, .int .i64 f5, .slice A6 n6 c6] w1) := Lib.hid (Zl.out.below hb)
  replace Zr : Hid (Zx (w.heap.size + 1) [.int .i64 0, .bool false, .slice none 0 0, .int .i64 0, .slice none 0 0, .int .i64 0, .slice none 0 0] w1) := Lib.hid (Zr.out.below hb)
  replace HB : Hid (Below w.heap.size w w1) := Lib.hid (HB.out.trans (hb.mono HB.out.size))
  have hsw1 : w.heap.size + 1 + 1 ≤ w1.heap.size := (by have h1 := hb.size; (try simp only [World.size_alloc, World.size_setCell] at h1); exact h1)
  have G2 : Hid (Grow 54 3 (w.heap.size + 1 + 1) w1 B2 n2 k2 L2 (fun _ => False)) := Lib.hid (by have h1 := hK.g2; (try simp only [World.size_alloc] at h1); exact h1)
  have G4 : Hid (Grow 60 2 (w.heap.size + 1 + 1) w1 B4 n4 k4 L4 (fun _ => False)) := Lib.hid (by have h1 := hK.g4; (try simp only [World.size_alloc] at h1); exact h1)
  have G6 : Hid (Grow 60 2 (w.heap.size + 1 + 1) w1 B6 n6 k6 L6 (fun _ => False)) := Lib.hid (by have h1 := hK.g6; (try simp only [World.size_alloc] at h1); exact h1)
  have P24 := Lib.hid hK.p24
  have P26 := Lib.hid hK.p26
  have P46 := Lib.hid hK.p46
  clear hK hb
  obtain ⟨zl0, zl1, zl2, zl3, zl4, zl5, zl6, fl⟩ := Zl.out.c7
  obtain ⟨zr0, zr1, zr2, zr3, zr4, zr5, zr6, fr⟩ := Zr.out.c7
  have hT : Touch (fun b => b = w.heap.size) w1 ((((((((w1.setCell ⟨w.heap.size, 0, none⟩ (.int .i64 f0)).setCell ⟨w.heap.size, 1, none⟩ (.bool f1)).setCell ⟨w.heap.size, 2, none⟩ (.slice B2 n2 k2)).setCell ⟨w.heap.size, 3, none⟩ (.int .i64 f3)).setCell ⟨w.heap.size, 4, none⟩ (.slice B4 n4 k4)).setCell ⟨w.heap.size, 5, none⟩ (.int .i64 f5)).setCell ⟨w.heap.size, 6, none⟩ (.slice B6 n6 k6)).setCell ⟨w.heap.size, 5, none⟩ (.int .i64 (wrap64 (f5 + 1)))) := ((((((((Touch.refl (fun b => b = w.heap.size) w1).setCell (p := ⟨w.heap.size, 0, none⟩) rfl (.int .i64 f0)).setCell (p := ⟨w.heap.size, 1, none⟩) rfl (.bool f1)).setCell (p := ⟨w.heap.size, 2, none⟩) rfl (.slice B2 n2 k2)).setCell (p := ⟨w.heap.size, 3, none⟩) rfl (.int .i64 f3)).setCell (p := ⟨w.heap.size, 4, none⟩) rfl (.slice B4 n4 k4)).setCell (p := ⟨w.heap.size, 5, none⟩) rfl (.int .i64 f5)).setCell (p := ⟨w.heap.size, 6, none⟩) rfl (.slice B6 n6 k6)).setCell (p := ⟨w.heap.size, 5, none⟩) rfl (.int .i64 (wrap64 (f5 + 1)))
  replace Zr : Hid (Zx (w.heap.size + 1) [.int .i64 0, .bool false, .slice none 0 0, .int .i64 0, .slice none 0 0, .int .i64 0, .slice none 0 0] ((((((((w1.setCell ⟨w.heap.size, 0, none⟩ (.int .i64 f0)).setCell ⟨w.heap.size, 1, none⟩ (.bool f1)).setCell ⟨w.heap.size, 2, none⟩ (.slice B2 n2 k2)).setCell ⟨w.heap.size, 3, none⟩ (.int .i64 f3)).setCell ⟨w.heap.size, 4, none⟩ (.slice B4 n4 k4)).setCell ⟨w.heap.size, 5, none⟩ (.int .i64 f5)).setCell ⟨w.heap.size, 6, none⟩ (.slice B6 n6 k6)).setCell ⟨w.heap.size, 5, none⟩ (.int .i64 (wrap64 (f5 + 1))))) := Lib.hid (Zr.out.touch hT (by have h1 := HB.out.size; omega))
  replace G2 : Hid (Grow 54 3 (w.heap.size + 1 + 1) ((((((((w1.setCell ⟨w.heap.size, 0, none⟩ (.int .i64 f0)).setCell ⟨w.heap.size, 1, none⟩ (.bool f1)).setCell ⟨w.heap.size, 2, none⟩ (.slice B2 n2 k2)).setCell ⟨w.heap.size, 3, none⟩ (.int .i64 f3)).setCell ⟨w.heap.size, 4, none⟩ (.slice B4 n4 k4)).setCell ⟨w.heap.size, 5, none⟩ (.int .i64 f5)).setCell ⟨w.heap.size, 6, none⟩ (.slice B6 n6 k6)).setCell ⟨w.heap.size, 5, none⟩ (.int .i64 (wrap64 (f5 + 1)))) B2 n2 k2 L2 (fun _ => False)) := Lib.hid (G2.out.touch hT (fun a e h => by have h1 := (G2.out.blkF a e).1; have h2 := HB.out.size; omega) (fun _ h => h.elim))
  replace G4 : Hid (Grow 60 2 (w.heap.size + 1 + 1) ((((((((w1.setCell ⟨w.heap.size, 0, none⟩ (.int .i64 f0)).setCell ⟨w.heap.size, 1, none⟩ (.bool f1)).setCell ⟨w.heap.size, 2, none⟩ (.slice B2 n2 k2)).setCell ⟨w.heap.size, 3, none⟩ (.int .i64 f3)).setCell ⟨w.heap.size, 4, none⟩ (.slice B4 n4 k4)).setCell ⟨w.heap.size, 5, none⟩ (.int .i64 f5)).setCell ⟨w.heap.size, 6, none⟩ (.slice B6 n6 k6)).setCell ⟨w.heap.size, 5, none⟩ (.int .i64 (wrap64 (f5 + 1)))) B4 n4 k4 L4 (fun _ => False)) := Lib.hid (G4.out.touch hT (fun a e h => by have h1 := (G4.out.blkF a e).1; have h2 := HB.out.size; omega) (fun _ h => h.elim))
  replace G6 : Hid (Grow 60 2 (w.heap.size + 1 + 1) ((((((((w1.setCell ⟨w.heap.size, 0, none⟩ (.int .i64 f0)).setCell ⟨w.heap.size, 1, none⟩ (.bool f1)).setCell ⟨w.heap.size, 2, none⟩ (.slice B2 n2 k2)).setCell ⟨w.heap.size, 3, none⟩ (.int .i64 f3)).setCell ⟨w.heap.size, 4, none⟩ (.slice B4 n4 k4)).setCell ⟨w.heap.size, 5, none⟩ (.int .i64 f5)).setCell ⟨w.heap.size, 6, none⟩ (.slice B6 n6 k6)).setCell ⟨w.heap.size, 5, none⟩ (.int .i64 (wrap64 (f5 + 1)))) B6 n6 k6 L6 (fun _ => False)) := Lib.hid (G6.out.touch hT (fun a e h => by have h1 := (G6.out.blkF a e).1; have h2 := HB.out.size; omega) (fun _ h => h.elim))
  replace Zl : Hid (Zx (w.heap.size) [.int .i64 f0, .bool f1, .slice B2 n2 k2, .int .i64 f3, .slice B4 n4 k4, .int .i64 (wrap64 (f5 + 1)), .slice B6 n6 k6] ((((((((w1.setCell ⟨w.heap.size, 0, none⟩ (.int .i64 f0)).setCell ⟨w.heap.size, 1, none⟩ (.bool f1)).setCell ⟨w.heap.size, 2, none⟩ (.slice B2 n2 k2)).setCell ⟨w.heap.size, 3, none⟩ (.int .i64 f3)).setCell ⟨w.heap.size, 4, none⟩ (.slice B4 n4 k4)).setCell ⟨w.heap.size, 5, none⟩ (.int .i64 f5)).setCell ⟨w.heap.size, 6, none⟩ (.slice B6 n6 k6)).setCell ⟨w.heap.size, 5, none⟩ (.int .i64 (wrap64 (f5 + 1))))) := Lib.hid ((((((((Zl.out.put 0 (.int .i64 f0)).put 1 (.bool f1)).put 2 (.slice B2 n2 k2)).put 3 (.int .i64 f3)).put 4 (.slice B4 n4 k4)).put 5 (.int .i64 f5)).put 6 (.slice B6 n6 k6)).put 5 (.int .i64 (wrap64 (f5 + 1))))
  replace HB : Hid (Below w.heap.size w ((((((((w1.setCell ⟨w.heap.size, 0, none⟩ (.int .i64 f0)).setCell ⟨w.heap.size, 1, none⟩ (.bool f1)).setCell ⟨w.heap.size, 2, none⟩ (.slice B2 n2 k2)).setCell ⟨w.heap.size, 3, none⟩ (.int .i64 f3)).setCell ⟨w.heap.size, 4, none⟩ (.slice B4 n4 k4)).setCell ⟨w.heap.size, 5, none⟩ (.int .i64 f5)).setCell ⟨w.heap.size, 6, none⟩ (.slice B6 n6 k6)).setCell ⟨w.heap.size, 5, none⟩ (.int .i64 (wrap64 (f5 + 1))))) := Lib.hid (HB.out.trans (hT.below (fun b h => by rw [h]; omega) HB.out.size))
  clear hT
  go_upto_region 3 with (fail)
  clear zl0 zl1 zl2 zl3 zl4 zl5 zl6 fl
  clear zr0 zr1 zr2 zr3 zr4 zr5 zr6 fr
  have hsw2 : w1.heap.size ≤ ((((((((w1.setCell ⟨w.heap.size, 0, none⟩ (.int .i64 f0)).setCell ⟨w.heap.size, 1, none⟩ (.bool f1)).setCell ⟨w.heap.size, 2, none⟩ (.slice B2 n2 k2)).setCell ⟨w.heap.size, 3, none⟩ (.int .i64 f3)).setCell ⟨w.heap.size, 4, none⟩ (.slice B4 n4 k4)).setCell ⟨w.heap.size, 5, none⟩ (.int .i64 f5)).setCell ⟨w.heap.size, 6, none⟩ (.slice B6 n6 k6)).setCell ⟨w.heap.size, 5, none⟩ (.int .i64 (wrap64 (f5 + 1)))).heap.size := by (first | (simp; done) | (simp only [World.size_alloc, World.size_setCell]; omega))
  generalize ((((((((w1.setCell ⟨w.heap.size, 0, none⟩ (.int .i64 f0)).setCell ⟨w.heap.size, 1, none⟩ (.bool f1)).setCell ⟨w.heap.size, 2, none⟩ (.slice B2 n2 k2)).setCell ⟨w.heap.size, 3, none⟩ (.int .i64 f3)).setCell ⟨w.heap.size, 4, none⟩ (.slice B4 n4 k4)).setCell ⟨w.heap.size, 5, none⟩ (.int .i64 f5)).setCell ⟨w.heap.size, 6, none⟩ (.slice B6 n6 k6)).setCell ⟨w.heap.size, 5, none⟩ (.int .i64 (wrap64 (f5 + 1)))) = w2 at *
  obtain ⟨zl0, zl1, zl2, zl3, zl4, zl5, zl6, fl⟩ := Zl.out.c7
  obtain ⟨zr0, zr1, zr2, zr3, zr4, zr5, zr6, fr⟩ := Zr.out.c7
  have SL : Hid (Src 2 (w2.alloc (.cells #[.int .i64 (wrap64 (f5 + 1)), .int .i64 (x)] 60)) (some ⟨w2.heap.size, 0, none⟩) 1 [.r [.i (wrap64 (f5 + 1)), .i x]] (fun _ => False)) := Lib.hid (by have h1 := Src.litK (w := w2) (E := 60) (C := #[.int .i64 (wrap64 (f5 + 1)), .int .i64 (x)]) (d := .r [.i (wrap64 (f5 + 1)), .i x]) (k := 2) (X2.ic ⟨_, _, rfl⟩) rfl; (try simp only [World.size_alloc, World.size_setCell] at h1); exact h1)
  have GA : Hid (Grow 60 2 (w.heap.size + 1 + 1) (w2.alloc (.cells #[.int .i64 (wrap64 (f5 + 1)), .int .i64 (x)] 60)) B4 n4 k4 L4 (fun _ => False)) := Lib.hid (G4.out.below ((Below.refl _ _).alloc (Nat.le_refl _) _))
  go_wp2_with (first
    | (refine wpList_append_dat _ rfl _ _ 25 rfl 2 (by omega) 60 i1 _ 16 Try.underlying25 hj hy0 hy1 rfl hy2 (w.heap.size + 1 + 1) B4 n4 k4 L4 (fun _ => False) rfl GA.out (some ⟨w2.heap.size, 0, none⟩) 1 1 [.r [.i (wrap64 (f5 + 1)), .i x]] (fun _ => False) rfl SL.out (fun b h => h.elim) (fun a e h => h) (by unfold maxLen; omega) (by omega) (by first | (simp; done) | (simp only [World.size_alloc, World.size_setCell]; omega)) ?_; intro C4 j4 w3 hG hT9 hA; clear GA SL; clear zl0 zl1 zl2 zl3 zl4 zl5 zl6 fl; clear zr0 zr1 zr2 zr3 zr4 zr5 zr6 fr; have hT : Touch (fun b => ∃ a, B4 = some a ∧ b = a.block) w2 w3 := (Touch.of_below ((Below.refl _ _).alloc (Nat.le_refl _) _)).trans hT9; clear hT9; have hlt : ∀ a, B4 = some a → w.heap.size + 1 + 1 ≤ a.block := fun a e => (G4.out.blkF a e).1; replace hA : ∀ a, C4 = some a → B4 = some a ∨ w2.heap.size ≤ a.block := (fun a e => (hA a e).imp id (fun h => by have h1 := h; (try simp only [World.size_alloc, World.size_setCell] at h1); omega)); have Q24 : Apart B2 B4 := P24.out; have hq24 : ∀ a, B2 = some a → a.block < w2.heap.size := (fun a e => by have h1 := (G2.out.blkF a e).2; (try simp only [World.size_alloc, World.size_setCell] at h1); omega); replace P24 := Lib.hid (Q24.grown hA hq24); have Q46 : Apart B6 B4 := P46.out.symm; have hq46 : ∀ a, B6 = some a → a.block < w2.heap.size := (fun a e => by have h1 := (G6.out.blkF a e).2; (try simp only [World.size_alloc, World.size_setCell] at h1); omega); replace P46 := Lib.hid ((Q46.grown hA hq46).symm); replace Zl : Hid (Zx (w.heap.size) [.int .i64 f0, .bool f1, .slice B2 n2 k2, .int .i64 f3, .slice B4 n4 k4, .int .i64 (wrap64 (f5 + 1)), .slice B6 n6 k6] w3) := Lib.hid (Zl.out.touch hT (fun ⟨a, e, hx⟩ => by have h1 := hlt a e; have h2 := HB.out.size; omega)); replace Zr : Hid (Zx (w.heap.size + 1) [.int .i64 0, .bool false, .slice none 0 0, .int .i64 0, .slice none 0 0, .int .i64 0, .slice none 0 0] w3) := Lib.hid (Zr.out.touch hT (fun ⟨a, e, hx⟩ => by have h1 := hlt a e; have h2 := HB.out.size; omega)); replace G2 : Hid (Grow 54 3 (w.heap.size + 1 + 1) w3 B2 n2 k2 L2 (fun _ => False)) := Lib.hid (G2.out.apart_touch Q24 hT); clear Q24 hq24; replace G6 : Hid (Grow 60 2 (w.heap.size + 1 + 1) w3 B6 n6 k6 L6 (fun _ => False)) := Lib.hid (G6.out.apart_touch Q46 hT); clear Q46 hq46; replace G4 : Hid (Grow 60 2 (w.heap.size + 1 + 1) w3 C4 (n4 + 1) j4 (L4 ++ [.r [.i (wrap64 (f5 + 1)), .i x]]) (fun _ => False)) := Lib.hid (hG.noF (fun b h => h.elim (fun h => h) (fun h => h))); replace HB : Hid (Below w.heap.size w w3) := Lib.hid (HB.out.trans (hT.below (fun b ⟨a, e, hx⟩ => by have h1 := hlt a e; omega) HB.out.size)); have hsw3 : w2.heap.size ≤ w3.heap.size := (by have h1 := hT.size; (try simp only [World.size_alloc, World.size_setCell] at h1); exact h1); clear hG hA hT hlt; obtain ⟨zl0, zl1, zl2, zl3, zl4, zl5, zl6, fl⟩ := Zl.out.c7; obtain ⟨zr0, zr1, zr2, zr3, zr4, zr5, zr6, fr⟩ := Zr.out.c7)
    | fail)
  have hT : Touch (fun b => b = w.heap.size) w3 (w3.setCell ⟨w.heap.size, 4, none⟩ (.slice C4 (n4 + 1) j4)) := (Touch.refl (fun b => b = w.heap.size) w3).setCell (p := ⟨w.heap.size, 4, none⟩) rfl (.slice C4 (n4 + 1) j4)
  replace Zr : Hid (Zx (w.heap.size + 1) [.int .i64 0, .bool false, .slice none 0 0, .int .i64 0, .slice none 0 0, .int .i64 0, .slice none 0 0] (w3.setCell ⟨w.heap.size, 4, none⟩ (.slice C4 (n4 + 1) j4))) := Lib.hid (Zr.out.touch hT (by have h1 := HB.out.size; omega))
  replace G2 : Hid (Grow 54 3 (w.heap.size + 1 + 1) (w3.setCell ⟨w.heap.size, 4, none⟩ (.slice C4 (n4 + 1) j4)) B2 n2 k2 L2 (fun _ => False)) := Lib.hid (G2.out.touch hT (fun a e h => by have h1 := (G2.out.blkF a e).1; have h2 := HB.out.size; omega) (fun _ h => h.elim))
  replace G4 : Hid (Grow 60 2 (w.heap.size + 1 + 1) (w3.setCell ⟨w.heap.size, 4, none⟩ (.slice C4 (n4 + 1) j4)) C4 (n4 + 1) j4 (L4 ++ [.r [.i (wrap64 (f5 + 1)), .i x]]) (fun _ => False)) := Lib.hid (G4.out.touch hT (fun a e h => by have h1 := (G4.out.blkF a e).1; have h2 := HB.out.size; omega) (fun _ h => h.elim))
  replace G6 : Hid (Grow 60 2 (w.heap.size + 1 + 1) (w3.setCell ⟨w.heap.size, 4, none⟩ (.slice C4 (n4 + 1) j4)) B6 n6 k6 L6 (fun _ => False)) := Lib.hid (G6.out.touch hT (fun a e h => by have h1 := (G6.out.blkF a e).1; have h2 := HB.out.size; omega) (fun _ h => h.elim))
  replace Zl : Hid (Zx (w.heap.size) [.int .i64 f0, .bool f1, .slice B2 n2 k2, .int .i64 f3, .slice C4 (n4 + 1) j4, .int .i64 (wrap64 (f5 + 1)), .slice B6 n6 k6] (w3.setCell ⟨w.heap.size, 4, none⟩ (.slice C4 (n4 + 1) j4))) := Lib.hid (Zl.out.put 4 (.slice C4 (n4 + 1) j4))
  replace HB : Hid (Below w.heap.size w (w3.setCell ⟨w.heap.size, 4, none⟩ (.slice C4 (n4 + 1) j4))) := Lib.hid (HB.out.trans (hT.below (fun b h => by rw [h]; omega) HB.out.size))
  clear hT
  clear zl0 zl1 zl2 zl3 zl4 zl5 zl6 fl
  clear zr0 zr1 zr2 zr3 zr4 zr5 zr6 fr
  have hsw4 : w3.heap.size ≤ (w3.setCell ⟨w.heap.size, 4, none⟩ (.slice C4 (n4 + 1) j4)).heap.size := by (first | (simp; done) | (simp only [World.size_alloc, World.size_setCell]; omega))
  generalize (w3.setCell ⟨w.heap.size, 4, none⟩ (.slice C4 (n4 + 1) j4)) = w4 at *
  obtain ⟨zl0, zl1, zl2, zl3, zl4, zl5, zl6, fl⟩ := Zl.out.c7
  obtain ⟨zr0, zr1, zr2, zr3, zr4, zr5, zr6, fr⟩ := Zr.out.c7
  go_region_law (fail)
  all_goals (
    go_wp2_with fail
    refine bodyPost_ret (v := .tuple #[.agg #[.int .i64 f0, .bool f1, .slice B2 n2 k2, .int .i64 f3, .slice C4 (n4 + 1) j4, .int .i64 (wrap64 (f5 + 1)), .slice B6 n6 k6], .int .i64 (wrap64 (f5 + 1))]) ?hres rfl ?hpost
    case hres =>
      refine results_box2 rfl _ _ (w.heap.size + 1) [.int .i64 f0, .bool f1, .slice B2 n2 k2, .int .i64 f3, .slice C4 (n4 + 1) j4, .int .i64 (wrap64 (f5 + 1)), .slice B6 n6 k6] (.int .i64 (wrap64 (f5 + 1))) _ rfl rfl ?_ Try.underlying27 rfl (by kernel_rfl)
      refine Zx.box ?_
      repeat (first | with_reducible exact Zr.out | with_reducible refine Zx.drewB ?_ | with_reducible apply Zx.put7)
    case hpost =>
      suffices h9 : ∀ w' : World, Touch (fun b => b = w.heap.size + 1) w4 w' → GivesLI f0 f1 L2 n2 f3 (L4 ++ [.r [.i (wrap64 (f5 + 1)), .i x]]) (n4 + 1) (wrap64 (f5 + 1)) L6 n6 (wrap64 (f5 + 1)) w (.returned (.tuple #[.agg #[.int .i64 f0, .bool f1, .slice B2 n2 k2, .int .i64 f3, .slice C4 (n4 + 1) j4, .int .i64 (wrap64 (f5 + 1)), .slice B6 n6 k6], .int .i64 (wrap64 (f5 + 1))])) w' from h9 _ (by repeat (first | with_reducible exact Touch.refl _ _ | with_reducible refine Touch.drew ?_ | with_reducible refine Touch.put7 ?_ (Eq.refl _)))
      intro w' hT9
      obtain ⟨hL9, hB9⟩ := Link3.fin (W := w) (g := w.heap.size + 1) G2.out G4.out G6.out P24.out P26.out P46.out hT9 HB.out (by omega) (by omega)
      exact ⟨_, _, _, _, _, _, rfl, hL9, hB9⟩)
set_option maxRecDepth 100000 in
set_option maxHeartbeats 16000000 in
theorem specPutQ (f0 : Int) (f1 : Bool) (L2 : List Dat) (A2 : Option Addr) (n2 c2 : Nat) (f3 : Int) (L4 : List Dat) (A4 : Option Addr) (n4 c4 : Nat) (f5 : Int) (L6 : List Dat) (A6 : Option Addr) (n6 c6 : Nat) (x : Int) (w : World) (hl2 : Lies w (.l L2) [.slice A2 n2 c2]) (ht2 : ∀ x ∈ L2, Has tyExport x) (hl4 : Lies w (.l L4) [.slice A4 n4 c4]) (ht4 : ∀ x ∈ L4, Has tyQuestion x) (hl6 : Lies w (.l L6) [.slice A6 n6 c6]) (ht6 : ∀ x ∈ L6, Has tyQuestion x) (hn2 : n2 ≤ 1099511627776) (hn4 : n4 ≤ 1099511627776) (hn6 : n6 ≤ 1099511627776) :
    Calls Try.prog 34 #[.agg #[.int .i64 f0, .bool f1, .slice A2 n2 c2, .int .i64 f3, .slice A4 n4 c4, .int .i64 f5, .slice A6 n6 c6], .int .i64 x] w (GivesLI f0 f1 L2 n2 f3 (L4 ++ [.r [.i (wrap64 (f5 + 1)), .i x]]) (n4 + 1) (wrap64 (f5 + 1)) L6 n6 (wrap64 (f5 + 1)) w) := by
  have HL2 := Lib.hid hl2
  have HT2 := Lib.hid ht2
  have HL4 := Lib.hid hl4
  have HT4 := Lib.hid ht4
  have HL6 := Lib.hid hl6
  have HT6 := Lib.hid ht6
  clear hl2 hl4 hl6 ht2 ht4 ht6
  obtain ⟨i0, hi, hz0, hz1, hz2⟩ := info_parts infoExport
  obtain ⟨i1, hj, hy0, hy1, hy2⟩ := info_parts infoQuestion
  have HB : Hid (Below w.heap.size w w) := Lib.hid (Below.refl _ _)
  have Zl : Hid (Zx (w.heap.size) [.int .i64 f0, .bool f1, .slice A2 n2 c2, .int .i64 f3, .slice A4 n4 c4, .int .i64 f5, .slice A6 n6 c6] (w.alloc (.cells #[.int .i64 f0, .bool f1, .slice A2 n2 c2, .int .i64 f3, .slice A4 n4 c4, .int .i64 f5, .slice A6 n6 c6] 27))) := Lib.hid (Zx.new _ _ _)
  replace HB : Hid (Below w.heap.size w (w.alloc (.cells #[.int .i64 f0, .bool f1, .slice A2 n2 c2, .int .i64 f3, .slice A4 n4 c4, .int .i64 f5, .slice A6 n6 c6] 27))) := Lib.hid (HB.out.alloc HB.out.size _)
  replace Zl : Hid (Zx (w.heap.size) [.int .i64 f0, .bool f1, .slice A2 n2 c2, .int .i64 f3, .slice A4 n4 c4, .int .i64 f5, .slice A6 n6 c6] ((w.alloc (.cells #[.int .i64 f0, .bool f1, .slice A2 n2 c2, .int .i64 f3, .slice A4 n4 c4, .int .i64 f5, .slice A6 n6 c6] 27)).alloc (.cells #[.int .i64 0, .bool false, .slice none 0 0, .int .i64 0, .slice none 0 0, .int .i64 0, .slice none 0 0] 27))) := Lib.hid (Zl.out.below ((Below.refl _ _).alloc (Nat.le_refl _) _))
  have Zr : Hid (Zx (w.heap.size + 1) [.int .i64 0, .bool false, .slice none 0 0, .int .i64 0, .slice none 0 0, .int .i64 0, .slice none 0 0] ((w.alloc (.cells #[.int .i64 f0, .bool f1, .slice A2 n2 c2, .int .i64 f3, .slice A4 n4 c4, .int .i64 f5, .slice A6 n6 c6] 27)).alloc (.cells #[.int .i64 0, .bool false, .slice none 0 0, .int .i64 0, .slice none 0 0, .int .i64 0, .slice none 0 0] 27))) := Lib.hid (by have h1 := Zx.new (w.alloc (.cells #[.int .i64 f0, .bool f1, .slice A2 n2 c2, .int .i64 f3, .slice A4 n4 c4, .int .i64 f5, .slice A6 n6 c6] 27)) #[.int .i64 0, .bool false, .slice none 0 0, .int .i64 0, .slice none 0 0, .int .i64 0, .slice none 0 0] 27; (try simp only [World.size_alloc, World.size_setCell] at h1); exact h1)
  replace HB : Hid (Below w.heap.size w ((w.alloc (.cells #[.int .i64 f0, .bool f1, .slice A2 n2 c2, .int .i64 f3, .slice A4 n4 c4, .int .i64 f5, .slice A6 n6 c6] 27)).alloc (.cells #[.int .i64 0, .bool false, .slice none 0 0, .int .i64 0, .slice none 0 0, .int .i64 0, .slice none 0 0] 27))) := Lib.hid (HB.out.alloc HB.out.size _)
  go_enter Try.func34, Try.ntmps34
  go_wp2_with fail
  refine (specCopy f0 f1 L2 A2 n2 c2 f3 L4 A4 n4 c4 f5 L6 A6 n6 c6 _ (HL2.out.below HB.out) HT2.out (HL4.out.below HB.out) HT4.out (HL6.out.below HB.out) HT6.out hn2 hn4 hn6).mono ?_
  rintro e w1 ⟨B2, k2, B4, k4, B6, k6, rfl, hK, hb⟩
  replace Zl : Hid (Zx (w.heap.size) [.int .i64 f0, .bool f1, .slice A2 n2 c2, .int .i64 f3, .slice A4 n4 c4, .int .i64 f5, .slice A6 n6 c6] w1) := Lib.hid (Zl.out.below hb)
  replace Zr : Hid (Zx (w.heap.size + 1) [.int .i64 0, .bool false, .slice none 0 0, .int .i64 0, .slice none 0 0, .int .i64 0, .slice none 0 0] w1) := Lib.hid (Zr.out.below hb)
  replace HB : Hid (Below w.heap.size w w1) := Lib.hid (HB.out.trans (hb.mono HB.out.size))
  have hsw1 : w.heap.size + 1 + 1 ≤ w1.heap.size := (by have h1 := hb.size; (try simp only [World.size_alloc, World.size_setCell] at h1); exact h1)
  have G2 : Hid (Grow 54 3 (w.heap.size + 1 + 1) w1 B2 n2 k2 L2 (fun _ => False)) := Lib.hid (by have h1 := hK.g2; (try simp only [World.size_alloc] at h1); exact h1)
  have G4 : Hid (Grow 60 2 (w.heap.size + 1 + 1) w1 B4 n4 k4 L4 (fun _ => False)) := Lib.hid (by have h1 := hK.g4; (try simp only [World.size_alloc] at h1); exact h1)
  have G6 : Hid (Grow 60 2 (w.heap.size + 1 + 1) w1 B6 n6 k6 L6 (fun _ => False)) := Lib.hid (by have h1 := hK.g6; (try simp only [World.size_alloc] at h1); exact h1)
  have P24 := Lib.hid hK.p24
  have P26 := Lib.hid hK.p26
  have P46 := Lib.hid hK.p46
  clear hK hb
  have No2 : Hid (∀ a, B2 = some a → a.block ≠ w1.heap.size) := Lib.hid (fun a e => by have h1 := (G2.out.blkF a e).2; (try simp only [World.size_alloc, World.size_setCell] at h1); omega)
  have No4 : Hid (∀ a, B4 = some a → a.block ≠ w1.heap.size) := Lib.hid (fun a e => by have h1 := (G4.out.blkF a e).2; (try simp only [World.size_alloc, World.size_setCell] at h1); omega)
  have No6 : Hid (∀ a, B6 = some a → a.block ≠ w1.heap.size) := Lib.hid (fun a e => by have h1 := (G6.out.blkF a e).2; (try simp only [World.size_alloc, World.size_setCell] at h1); omega)
  obtain ⟨yl0, yl1, yl2, yl3, yl4, yl5, yl6, fyl⟩ := (Zl.out.below ((Below.refl _ _).alloc (Nat.le_refl _) (.cells #[.int .i64 f0, .bool f1, .slice B2 n2 k2, .int .i64 f3, .slice B4 n4 k4, .int .i64 f5, .slice B6 n6 k6] 27))).c7
  obtain ⟨yr0, yr1, yr2, yr3, yr4, yr5, yr6, fyr⟩ := (Zr.out.below ((Below.refl _ _).alloc (Nat.le_refl _) (.cells #[.int .i64 f0, .bool f1, .slice B2 n2 k2, .int .i64 f3, .slice B4 n4 k4, .int .i64 f5, .slice B6 n6 k6] 27))).c7
  replace Zl : Hid (Zx (w.heap.size) [.int .i64 f0, .bool f1, .slice A2 n2 c2, .int .i64 f3, .slice A4 n4 c4, .int .i64 f5, .slice A6 n6 c6] (w1.alloc (.cells #[.int .i64 f0, .bool f1, .slice B2 n2 k2, .int .i64 f3, .slice B4 n4 k4, .int .i64 (wrap64 (f5 + 1)), .slice B6 n6 k6] 27))) := Lib.hid (Zl.out.below ((Below.refl _ _).alloc (Nat.le_refl _) _))
  replace Zr : Hid (Zx (w.heap.size + 1) [.int .i64 0, .bool false, .slice none 0 0, .int .i64 0, .slice none 0 0, .int .i64 0, .slice none 0 0] (w1.alloc (.cells #[.int .i64 f0, .bool f1, .slice B2 n2 k2, .int .i64 f3, .slice B4 n4 k4, .int .i64 (wrap64 (f5 + 1)), .slice B6 n6 k6] 27))) := Lib.hid (Zr.out.below ((Below.refl _ _).alloc (Nat.le_refl _) _))
  replace G2 : Hid (Grow 54 3 (w.heap.size + 1 + 1) (w1.alloc (.cells #[.int .i64 f0, .bool f1, .slice B2 n2 k2, .int .i64 f3, .slice B4 n4 k4, .int .i64 (wrap64 (f5 + 1)), .slice B6 n6 k6] 27)) B2 n2 k2 L2 (fun _ => False)) := Lib.hid (G2.out.below ((Below.refl _ _).alloc (Nat.le_refl _) _))
  replace G4 : Hid (Grow 60 2 (w.heap.size + 1 + 1) (w1.alloc (.cells #[.int .i64 f0, .bool f1, .slice B2 n2 k2, .int .i64 f3, .slice B4 n4 k4, .int .i64 (wrap64 (f5 + 1)), .slice B6 n6 k6] 27)) B4 n4 k4 L4 (fun _ => False)) := Lib.hid (G4.out.below ((Below.refl _ _).alloc (Nat.le_refl _) _))
  replace G6 : Hid (Grow 60 2 (w.heap.size + 1 + 1) (w1.alloc (.cells #[.int .i64 f0, .bool f1, .slice B2 n2 k2, .int .i64 f3, .slice B4 n4 k4, .int .i64 (wrap64 (f5 + 1)), .slice B6 n6 k6] 27)) B6 n6 k6 L6 (fun _ => False)) := Lib.hid (G6.out.below ((Below.refl _ _).alloc (Nat.le_refl _) _))
  have Zo : Hid (Zx (w1.heap.size) [.int .i64 f0, .bool f1, .slice B2 n2 k2, .int .i64 f3, .slice B4 n4 k4, .int .i64 (wrap64 (f5 + 1)), .slice B6 n6 k6] (w1.alloc (.cells #[.int .i64 f0, .bool f1, .slice B2 n2 k2, .int .i64 f3, .slice B4 n4 k4, .int .i64 (wrap64 (f5 + 1)), .slice B6 n6 k6] 27))) := Lib.hid (Zx.new _ _ _)
  replace HB : Hid (Below w.heap.size w (w1.alloc (.cells #[.int .i64 f0, .bool f1, .slice B2 n2 k2, .int .i64 f3, .slice B4 n4 k4, .int .i64 (wrap64 (f5 + 1)), .slice B6 n6 k6] 27))) := Lib.hid (HB.out.alloc HB.out.size _)
  go_upto_region 3 with (fail)
  clear yl0 yl1 yl2 yl3 yl4 yl5 yl6 yr0 yr1 yr2 yr3 yr4 yr5 yr6 fyl fyr
  have hsw2 : w1.heap.size + 1 ≤ (w1.alloc (.cells #[.int .i64 f0, .bool f1, .slice B2 n2 k2, .int .i64 f3, .slice B4 n4 k4, .int .i64 (wrap64 (f5 + 1)), .slice B6 n6 k6] 27)).heap.size := by (first | (simp; done) | (simp only [World.size_alloc, World.size_setCell]; omega))
  generalize (w1.alloc (.cells #[.int .i64 f0, .bool f1, .slice B2 n2 k2, .int .i64 f3, .slice B4 n4 k4, .int .i64 (wrap64 (f5 + 1)), .slice B6 n6 k6] 27)) = w2 at *
  obtain ⟨zl0, zl1, zl2, zl3, zl4, zl5, zl6, fl⟩ := Zl.out.c7
  obtain ⟨zr0, zr1, zr2, zr3, zr4, zr5, zr6, fr⟩ := Zr.out.c7
  obtain ⟨zo0, zo1, zo2, zo3, zo4, zo5, zo6, fo⟩ := Zo.out.c7
  have SL : Hid (Src 2 (w2.alloc (.cells #[.int .i64 (wrap64 (f5 + 1)), .int .i64 (x)] 60)) (some ⟨w2.heap.size, 0, none⟩) 1 [.r [.i (wrap64 (f5 + 1)), .i x]] (fun _ => False)) := Lib.hid (by have h1 := Src.litK (w := w2) (E := 60) (C := #[.int .i64 (wrap64 (f5 + 1)), .int .i64 (x)]) (d := .r [.i (wrap64 (f5 + 1)), .i x]) (k := 2) (X2.ic ⟨_, _, rfl⟩) rfl; (try simp only [World.size_alloc, World.size_setCell] at h1); exact h1)
  have GA : Hid (Grow 60 2 (w.heap.size + 1 + 1) (w2.alloc (.cells #[.int .i64 (wrap64 (f5 + 1)), .int .i64 (x)] 60)) B4 n4 k4 L4 (fun _ => False)) := Lib.hid (G4.out.below ((Below.refl _ _).alloc (Nat.le_refl _) _))
  go_wp2_with (first
    | (refine wpList_append_dat _ rfl _ _ 25 rfl 2 (by omega) 60 i1 _ 16 Try.underlying25 hj hy0 hy1 rfl hy2 (w.heap.size + 1 + 1) B4 n4 k4 L4 (fun _ => False) rfl GA.out (some ⟨w2.heap.size, 0, none⟩) 1 1 [.r [.i (wrap64 (f5 + 1)), .i x]] (fun _ => False) rfl SL.out (fun b h => h.elim) (fun a e h => h) (by unfold maxLen; omega) (by omega) (by first | (simp; done) | (simp only [World.size_alloc, World.size_setCell]; omega)) ?_; intro C4 j4 w3 hG hT9 hA; clear GA SL; have hqo : Hid (w1.heap.size < w2.heap.size) := Lib.hid (by have h1 := Zo.out.1.1; (try simp only [World.size_alloc, World.size_setCell] at h1); omega); clear zl0 zl1 zl2 zl3 zl4 zl5 zl6 fl; clear zr0 zr1 zr2 zr3 zr4 zr5 zr6 fr; clear zo0 zo1 zo2 zo3 zo4 zo5 zo6 fo; have hT : Touch (fun b => ∃ a, B4 = some a ∧ b = a.block) w2 w3 := (Touch.of_below ((Below.refl _ _).alloc (Nat.le_refl _) _)).trans hT9; clear hT9; have hlt : ∀ a, B4 = some a → w.heap.size + 1 + 1 ≤ a.block := fun a e => (G4.out.blkF a e).1; replace hA : ∀ a, C4 = some a → B4 = some a ∨ w2.heap.size ≤ a.block := (fun a e => (hA a e).imp id (fun h => by have h1 := h; (try simp only [World.size_alloc, World.size_setCell] at h1); omega)); have Q24 : Apart B2 B4 := P24.out; have hq24 : ∀ a, B2 = some a → a.block < w2.heap.size := (fun a e => by have h1 := (G2.out.blkF a e).2; (try simp only [World.size_alloc, World.size_setCell] at h1); omega); replace P24 := Lib.hid (Q24.grown hA hq24); have Q46 : Apart B6 B4 := P46.out.symm; have hq46 : ∀ a, B6 = some a → a.block < w2.heap.size := (fun a e => by have h1 := (G6.out.blkF a e).2; (try simp only [World.size_alloc, World.size_setCell] at h1); omega); replace P46 := Lib.hid ((Q46.grown hA hq46).symm); replace Zl : Hid (Zx (w.heap.size) [.int .i64 f0, .bool f1, .slice A2 n2 c2, .int .i64 f3, .slice A4 n4 c4, .int .i64 f5, .slice A6 n6 c6] w3) := Lib.hid (Zl.out.touch hT (fun ⟨a, e, hx⟩ => by have h1 := hlt a e; have h2 := HB.out.size; omega)); replace Zr : Hid (Zx (w.heap.size + 1) [.int .i64 0, .bool false, .slice none 0 0, .int .i64 0, .slice none 0 0, .int .i64 0, .slice none 0 0] w3) := Lib.hid (Zr.out.touch hT (fun ⟨a, e, hx⟩ => by have h1 := hlt a e; have h2 := HB.out.size; omega)); replace Zo : Hid (Zx (w1.heap.size) [.int .i64 f0, .bool f1, .slice B2 n2 k2, .int .i64 f3, .slice B4 n4 k4, .int .i64 (wrap64 (f5 + 1)), .slice B6 n6 k6] w3) := Lib.hid (Zo.out.touch hT (fun ⟨a, e, hx⟩ => No4.out a e hx.symm)); have hzo := Zo.out.1.1; replace No4 : Hid (∀ a, C4 = some a → a.block ≠ w1.heap.size) := Lib.hid (fun a e => (hA a e).elim (fun h => No4.out a h) (fun h => by have h9 := hqo.out; omega)); clear hzo; replace G2 : Hid (Grow 54 3 (w.heap.size + 1 + 1) w3 B2 n2 k2 L2 (fun _ => False)) := Lib.hid (G2.out.apart_touch Q24 hT); clear Q24 hq24; replace G6 : Hid (Grow 60 2 (w.heap.size + 1 + 1) w3 B6 n6 k6 L6 (fun _ => False)) := Lib.hid (G6.out.apart_touch Q46 hT); clear Q46 hq46; replace G4 : Hid (Grow 60 2 (w.heap.size + 1 + 1) w3 C4 (n4 + 1) j4 (L4 ++ [.r [.i (wrap64 (f5 + 1)), .i x]]) (fun _ => False)) := Lib.hid (hG.noF (fun b h => h.elim (fun h => h) (fun h => h))); replace HB : Hid (Below w.heap.size w w3) := Lib.hid (HB.out.trans (hT.below (fun b ⟨a, e, hx⟩ => by have h1 := hlt a e; omega) HB.out.size)); have hsw3 : w2.heap.size ≤ w3.heap.size := (by have h1 := hT.size; (try simp only [World.size_alloc, World.size_setCell] at h1); exact h1); clear hG hA hT hlt; obtain ⟨zl0, zl1, zl2, zl3, zl4, zl5, zl6, fl⟩ := Zl.out.c7; obtain ⟨zr0, zr1, zr2, zr3, zr4, zr5, zr6, fr⟩ := Zr.out.c7; obtain ⟨zo0, zo1, zo2, zo3, zo4, zo5, zo6, fo⟩ := Zo.out.c7)
    | fail)
  have hT : Touch (fun b => b = w1.heap.size) w3 (w3.setCell ⟨w1.heap.size, 4, none⟩ (.slice C4 (n4 + 1) j4)) := (Touch.refl (fun b => b = w1.heap.size) w3).setCell (p := ⟨w1.heap.size, 4, none⟩) rfl (.slice C4 (n4 + 1) j4)
  replace Zl : Hid (Zx (w.heap.size) [.int .i64 f0, .bool f1, .slice A2 n2 c2, .int .i64 f3, .slice A4 n4 c4, .int .i64 f5, .slice A6 n6 c6] (w3.setCell ⟨w1.heap.size, 4, none⟩ (.slice C4 (n4 + 1) j4))) := Lib.hid (Zl.out.touch hT (by have h1 := HB.out.size; omega))
  replace Zr : Hid (Zx (w.heap.size + 1) [.int .i64 0, .bool false, .slice none 0 0, .int .i64 0, .slice none 0 0, .int .i64 0, .slice none 0 0] (w3.setCell ⟨w1.heap.size, 4, none⟩ (.slice C4 (n4 + 1) j4))) := Lib.hid (Zr.out.touch hT (by have h1 := HB.out.size; omega))
  replace G2 : Hid (Grow 54 3 (w.heap.size + 1 + 1) (w3.setCell ⟨w1.heap.size, 4, none⟩ (.slice C4 (n4 + 1) j4)) B2 n2 k2 L2 (fun _ => False)) := Lib.hid (G2.out.touch hT (fun a e h => No2.out a e h) (fun _ h => h.elim))
  replace G4 : Hid (Grow 60 2 (w.heap.size + 1 + 1) (w3.setCell ⟨w1.heap.size, 4, none⟩ (.slice C4 (n4 + 1) j4)) C4 (n4 + 1) j4 (L4 ++ [.r [.i (wrap64 (f5 + 1)), .i x]]) (fun _ => False)) := Lib.hid (G4.out.touch hT (fun a e h => No4.out a e h) (fun _ h => h.elim))
  replace G6 : Hid (Grow 60 2 (w.heap.size + 1 + 1) (w3.setCell ⟨w1.heap.size, 4, none⟩ (.slice C4 (n4 + 1) j4)) B6 n6 k6 L6 (fun _ => False)) := Lib.hid (G6.out.touch hT (fun a e h => No6.out a e h) (fun _ h => h.elim))
  replace Zo : Hid (Zx (w1.heap.size) [.int .i64 f0, .bool f1, .slice B2 n2 k2, .int .i64 f3, .slice C4 (n4 + 1) j4, .int .i64 (wrap64 (f5 + 1)), .slice B6 n6 k6] (w3.setCell ⟨w1.heap.size, 4, none⟩ (.slice C4 (n4 + 1) j4))) := Lib.hid (Zo.out.put 4 (.slice C4 (n4 + 1) j4))
  replace HB : Hid (Below w.heap.size w (w3.setCell ⟨w1.heap.size, 4, none⟩ (.slice C4 (n4 + 1) j4))) := Lib.hid (HB.out.trans (hT.below (fun b h => by rw [h]; omega) HB.out.size))
  clear hT
  clear zl0 zl1 zl2 zl3 zl4 zl5 zl6 fl
  clear zr0 zr1 zr2 zr3 zr4 zr5 zr6 fr
  clear zo0 zo1 zo2 zo3 zo4 zo5 zo6 fo
  have hsw4 : w3.heap.size ≤ (w3.setCell ⟨w1.heap.size, 4, none⟩ (.slice C4 (n4 + 1) j4)).heap.size := by (first | (simp; done) | (simp only [World.size_alloc, World.size_setCell]; omega))
  generalize (w3.setCell ⟨w1.heap.size, 4, none⟩ (.slice C4 (n4 + 1) j4)) = w4 at *
  obtain ⟨zl0, zl1, zl2, zl3, zl4, zl5, zl6, fl⟩ := Zl.out.c7
  obtain ⟨zr0, zr1, zr2, zr3, zr4, zr5, zr6, fr⟩ := Zr.out.c7
  obtain ⟨zo0, zo1, zo2, zo3, zo4, zo5, zo6, fo⟩ := Zo.out.c7
  go_region_law (fail)
  all_goals (
    go_wp2_with fail
    refine bodyPost_ret (v := .tuple #[.agg #[.int .i64 f0, .bool f1, .slice B2 n2 k2, .int .i64 f3, .slice C4 (n4 + 1) j4, .int .i64 (wrap64 (f5 + 1)), .slice B6 n6 k6], .int .i64 (wrap64 (f5 + 1))]) ?hres rfl ?hpost
    case hres =>
      refine results_box2 rfl _ _ (w.heap.size + 1) [.int .i64 f0, .bool f1, .slice B2 n2 k2, .int .i64 f3, .slice C4 (n4 + 1) j4, .int .i64 (wrap64 (f5 + 1)), .slice B6 n6 k6] (.int .i64 (wrap64 (f5 + 1))) _ rfl rfl ?_ Try.underlying27 rfl (by kernel_rfl)
      refine Zx.box ?_
      repeat (first | with_reducible exact Zr.out | with_reducible refine Zx.drewB ?_ | with_reducible apply Zx.put7)
    case hpost =>
      suffices h9 : ∀ w' : World, Touch (fun b => b = w.heap.size + 1) w4 w' → GivesLI f0 f1 L2 n2 f3 (L4 ++ [.r [.i (wrap64 (f5 + 1)), .i x]]) (n4 + 1) (wrap64 (f5 + 1)) L6 n6 (wrap64 (f5 + 1)) w (.returned (.tuple #[.agg #[.int .i64 f0, .bool f1, .slice B2 n2 k2, .int .i64 f3, .slice C4 (n4 + 1) j4, .int .i64 (wrap64 (f5 + 1)), .slice B6 n6 k6], .int .i64 (wrap64 (f5 + 1))])) w' from h9 _ (by repeat (first | with_reducible exact Touch.refl _ _ | with_reducible refine Touch.drew ?_ | with_reducible refine Touch.put7 ?_ (Eq.refl _)))
      intro w' hT9
      obtain ⟨hL9, hB9⟩ := Link3.fin (W := w) (g := w.heap.size + 1) G2.out G4.out G6.out P24.out P26.out P46.out hT9 HB.out (by omega) (by omega)
      exact ⟨_, _, _, _, _, _, rfl, hL9, hB9⟩)
end Go.Proofs.Ytdedioghljkflaa
