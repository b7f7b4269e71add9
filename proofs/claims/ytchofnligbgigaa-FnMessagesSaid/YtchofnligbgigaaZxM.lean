/- Chapter 11: boxes of twelve cells that are stored into; the wires of a list of numbers. -/
import Derived.Test.YtchofnligbgigaaDecV
import Derived.LoopTactic
import Derived.Lib.Hide
import Derived.Deep.QuietTactic
import Derived.BigQuiet
import Derived.Deep.RegionWith
import Derived.Handy
namespace Go.Proofs.Ytchofnligbgigaa
open Go.RowKit
set_option linter.unusedVariables false
set_option linter.unusedSimpArgs false
def Zx (g : Nat) (cs : List Value) (w : World) : Prop := Box g cs w ∧ ∀ j, w.frozen? ⟨g, j, none⟩ = false
theorem Zx.new (w : World) (cs : Array Value) (T : TypeId) : Zx w.heap.size cs.toList (w.alloc (.cells cs T)) := ⟨Box.new w cs T, fun j => by simp [go_sem]⟩
theorem Zx.lt {g : Nat} {cs : List Value} {w : World} (h : Zx g cs w) : g < w.heap.size := h.1.1
theorem Zx.low {g B : Nat} {cs : List Value} {w w' : World} (h : Zx g cs w) (hb : Below B w w') (hg : g < B) : Zx g cs w' :=
  ⟨⟨Nat.lt_of_lt_of_le h.1.1 hb.size, fun i v hv => (hb.cell (p := ⟨g, i, none⟩) hg).trans (h.1.2 i v hv)⟩, fun j => (hb.frozen (p := ⟨g, j, none⟩) hg).trans (h.2 j)⟩
theorem Zx.below {g : Nat} {cs : List Value} {w w' : World} (h : Zx g cs w) (hb : Below w.heap.size w w') : Zx g cs w' := h.low hb h.1.1
theorem Zx.put {g : Nat} {cs : List Value} {w : World} (h : Zx g cs w) (i : Nat) (v : Value) : Zx g (cs.set i v) (w.setCell ⟨g, i, none⟩ v) := ⟨h.1.put i v, fun j => by rw [World.frozen?_setCell]; exact h.2 j⟩
theorem Zx.far {g g' i : Nat} {cs : List Value} {w : World} {v : Value} (h : Zx g cs w) (hn : g' ≠ g) : Zx g cs (w.setCell ⟨g', i, none⟩ v) := ⟨h.1.far hn v, fun j => by rw [World.frozen?_setCell]; exact h.2 j⟩
theorem Zx.touch {g : Nat} {S : Nat → Prop} {cs : List Value} {w w' : World} (h : Zx g cs w) (ht : Touch S w w') (hn : ¬ S g) : Zx g cs w' := ⟨h.1.touch ht hn, fun j => (World.frozen?_of_block (w := w) (w' := w') (a := ⟨g, j, none⟩) (ht.block g h.1.1 hn)).trans (h.2 j)⟩
theorem Zx.box {g : Nat} {cs : List Value} {w : World} (h : Zx g cs w) : Box g cs w := h.1
theorem Zx.drewB {g : Nat} {cs : List Value} {w : World} (h : Zx g cs w) : Zx g cs w.drew := h.below (Below.refl _ _).drew
theorem Grow.blkF {E : TypeId} {k lo : Nat} {w : World} {A : Option Addr} {n c : Nat} {L : List Dat} {B : Nat → Prop} (h : Grow E k lo w A n c L B) : ∀ a, A = some a → lo ≤ a.block ∧ a.block < w.heap.size := fun a e => by
  subst e
  have := h.own a.block (by simp [Value.ownBlock])
  exact ⟨this.1, this.2.1⟩
theorem Grow.moreF {E : TypeId} {k lo lo' : Nat} {w : World} {A : Option Addr} {n c : Nat} {L : List Dat} {B : Nat → Prop} (h : Grow E k lo w A n c L B) (hl : ∀ a, A = some a → lo' ≤ a.block) : Grow E k lo' w A n c L B := by
  obtain ⟨xs, h1, h2⟩ := h
  refine ⟨xs, ⟨h1.1, ?_⟩, h2⟩
  rcases h1.2 with hn | ⟨g, cap, cur, hv, hb, r⟩
  · exact .inl hn
  · have hAe : A = some ⟨g, 0, none⟩ := by injection hv
    exact .inr ⟨g, cap, cur, hv, hl _ hAe, r⟩
theorem Grow.noF {E : TypeId} {k lo : Nat} {w : World} {A : Option Addr} {n c : Nat} {L : List Dat} {B : Nat → Prop} (h : Grow E k lo w A n c L B) (hB : ∀ b, ¬ B b) : Grow E k lo w A n c L (fun _ => False) := by
  obtain ⟨xs, h1, h2, h3, h4, h5, h6⟩ := h
  exact ⟨xs, h1, h2.mono (fun b hb => hB b hb), h3, h4, fun a e => ⟨fun h => h, (h5 a e).2⟩, fun b h => h.elim⟩
theorem results_box2 {P : Program} {fn : Func} {p q : Tmp} {ty : TypeId} (h : fn.results = #[.cell p ty, .tmp q]) (tmps : Array Value) (w : World) (g : Nat) (cs : List Value) (v : Value) (d : TypeDesc)
    (hp : tmps.getD p undef = .pointer (some ⟨g, 0, none⟩)) (hq : tmps.getD q undef = v) (hc : Box g cs w)
    (hu : P.underlying ty = some d) (hd : d.isRow = true) (hi : (P.info? ty).map (·.size) = some cs.length) :
    (results fn tmps).run P w = .ok (.tuple #[.agg cs.toArray, v]) w := by
  have hp' : tmps[p]?.getD undef = .pointer (some ⟨g, 0, none⟩) := by simpa using hp
  have hq' : tmps[q]?.getD undef = v := by simpa using hq
  simp [results, h, hp', hq', asAddr, run_loadVar_mid w g 0 ty cs d hc.range hu hd hi]
theorem Zx.c12 {g : Nat} {w : World} {v0 v1 v2 v3 v4 v5 v6 v7 v8 v9 v10 v11 : Value} (h : Zx g [v0, v1, v2, v3, v4, v5, v6, v7, v8, v9, v10, v11] w) : w.cell? ⟨g, 0, none⟩ = some v0 ∧ w.cell? ⟨g, 1, none⟩ = some v1 ∧ w.cell? ⟨g, 2, none⟩ = some v2 ∧ w.cell? ⟨g, 3, none⟩ = some v3 ∧ w.cell? ⟨g, 4, none⟩ = some v4 ∧ w.cell? ⟨g, 5, none⟩ = some v5 ∧ w.cell? ⟨g, 6, none⟩ = some v6 ∧ w.cell? ⟨g, 7, none⟩ = some v7 ∧ w.cell? ⟨g, 8, none⟩ = some v8 ∧ w.cell? ⟨g, 9, none⟩ = some v9 ∧ w.cell? ⟨g, 10, none⟩ = some v10 ∧ w.cell? ⟨g, 11, none⟩ = some v11 ∧ ∀ j, w.frozen? ⟨g, j, none⟩ = false :=
  ⟨h.1.2 0 _ rfl, h.1.2 1 _ rfl, h.1.2 2 _ rfl, h.1.2 3 _ rfl, h.1.2 4 _ rfl, h.1.2 5 _ rfl, h.1.2 6 _ rfl, h.1.2 7 _ rfl, h.1.2 8 _ rfl, h.1.2 9 _ rfl, h.1.2 10 _ rfl, h.1.2 11 _ rfl, h.2⟩
theorem Zx.put12 {g : Nat} {w : World} {v0 v1 v2 v3 v4 v5 v6 v7 v8 v9 v10 v11 u0 u1 u2 u3 u4 u5 u6 u7 u8 u9 u10 u11 : Value} (h : Zx g [u0, u1, u2, u3, u4, u5, u6, u7, u8, u9, u10, u11] w) : Zx g [v0, v1, v2, v3, v4, v5, v6, v7, v8, v9, v10, v11] ((((((((((((w.setCell ⟨g, 0, none⟩ v0).setCell ⟨g, 1, none⟩ v1).setCell ⟨g, 2, none⟩ v2).setCell ⟨g, 3, none⟩ v3).setCell ⟨g, 4, none⟩ v4).setCell ⟨g, 5, none⟩ v5).setCell ⟨g, 6, none⟩ v6).setCell ⟨g, 7, none⟩ v7).setCell ⟨g, 8, none⟩ v8).setCell ⟨g, 9, none⟩ v9).setCell ⟨g, 10, none⟩ v10).setCell ⟨g, 11, none⟩ v11) := ((((((((((((h.put 0 v0).put 1 v1).put 2 v2).put 3 v3).put 4 v4).put 5 v5).put 6 v6).put 7 v7).put 8 v8).put 9 v9).put 10 v10).put 11 v11)
theorem Touch.put12 {g : Nat} {S : Nat → Prop} {a w : World} {v0 v1 v2 v3 v4 v5 v6 v7 v8 v9 v10 v11 : Value} (h : Touch S a w) (hg : S g) : Touch S a ((((((((((((w.setCell ⟨g, 0, none⟩ v0).setCell ⟨g, 1, none⟩ v1).setCell ⟨g, 2, none⟩ v2).setCell ⟨g, 3, none⟩ v3).setCell ⟨g, 4, none⟩ v4).setCell ⟨g, 5, none⟩ v5).setCell ⟨g, 6, none⟩ v6).setCell ⟨g, 7, none⟩ v7).setCell ⟨g, 8, none⟩ v8).setCell ⟨g, 9, none⟩ v9).setCell ⟨g, 10, none⟩ v10).setCell ⟨g, 11, none⟩ v11) := ((((((((((((h.setCell (p := ⟨g, 0, none⟩) hg v0).setCell (p := ⟨g, 1, none⟩) hg v1).setCell (p := ⟨g, 2, none⟩) hg v2).setCell (p := ⟨g, 3, none⟩) hg v3).setCell (p := ⟨g, 4, none⟩) hg v4).setCell (p := ⟨g, 5, none⟩) hg v5).setCell (p := ⟨g, 6, none⟩) hg v6).setCell (p := ⟨g, 7, none⟩) hg v7).setCell (p := ⟨g, 8, none⟩) hg v8).setCell (p := ⟨g, 9, none⟩) hg v9).setCell (p := ⟨g, 10, none⟩) hg v10).setCell (p := ⟨g, 11, none⟩) hg v11)
theorem Zx.newAt (w : World) (g : Nat) (hg : w.heap.size = g) (cs : Array Value) (T : TypeId) : Zx g cs.toList (w.alloc (.cells cs T)) := by subst hg; exact Zx.new w cs T
theorem Grow.inRng {E : TypeId} {k lo : Nat} {w : World} {A : Option Addr} {n c B : Nat} {L : List Dat} (h : Grow E k lo w A n c L (fun _ => False)) (hl : B ≤ lo) : Owns w (.l L) [.slice A n c] (rng B w.heap.size) :=
  h.owns.mono (fun b hb => hb.elim (fun ⟨a, e, hx⟩ => by have h1 := h.blkF a e; rw [hx]; exact ⟨by omega, h1.2⟩) (fun h => h.elim))
theorem Owns.mono_w {w w' : World} {L : List Dat} {A : Option Addr} {n c lo : Nat} (h : Owns w (.l L) [.slice A n c] (rng lo w.heap.size)) (hs : w.heap.size ≤ w'.heap.size) (h2 : Owns w' (.l L) [.slice A n c] (rng lo w.heap.size)) : Owns w' (.l L) [.slice A n c] (rng lo w'.heap.size) :=
  h2.mono (fun b hb => ⟨hb.1, Nat.lt_of_lt_of_le hb.2 hs⟩)
theorem wiresL_at : ∀ (ns : List Int) (j : Nat), 2 * j + 1 < ns.length → (wiresL ns)[j]? = some (.r [.i (at0 ns (2 * j)), .i (at0 ns (2 * j + 1))])
  | [], j, h => by simp at h
  | [a], j, h => by rw [List.length_singleton] at h; omega
  | a :: b :: t, 0, h => rfl
  | a :: b :: t, j + 1, h => by
    have h1 := wiresL_at t j (by simp at h; omega)
    rw [wiresL, List.getElem?_cons_succ, h1]
    have e : ∀ k, at0 (a :: b :: t) (k + 2) = at0 t k := fun k => by simp [at0]
    rw [show 2 * (j + 1) = 2 * j + 2 by omega, show 2 * j + 2 + 1 = (2 * j + 1) + 2 by omega, e, e]
theorem wiresL_len : ∀ (ns : List Int) (J : Nat), ns.length = 2 * J → (wiresL ns).length = J
  | [], J, h => by rw [List.length_nil] at h; show 0 = J; omega
  | [a], J, h => by rw [List.length_singleton] at h; omega
  | a :: b :: t, J, h => by
    have := wiresL_len t (J - 1) (by simp at h; omega)
    rw [wiresL, List.length_cons, this]
    simp at h
    omega
theorem at0_drop (ns : List Int) (k j : Nat) : at0 (ns.drop k) j = at0 ns (k + j) := by simp [at0, List.getD_eq_getElem?_getD]
theorem wiresL_has : ∀ (ns : List Int), (∀ z ∈ ns, 0 ≤ z ∧ z ≤ 1000000000000) → ∀ d ∈ wiresL ns, Has tyWire d
  | [], _, d, h => by cases h
  | [a], _, d, h => by cases h
  | a :: b :: t, hz, d, h => by
    rw [wiresL] at h
    rcases List.mem_cons.1 h with rfl | h
    · have h1 := hz a (by simp)
      have h2 := hz b (by simp)
      simp only [tyWire, Has, HasAll]
      exact ⟨_, rfl, _, _, rfl, ⟨a, rfl, by omega, by omega⟩, _, _, rfl, ⟨b, rfl, by omega, by omega⟩, rfl⟩
    · exact wiresL_has t (fun z hm => hz z (by simp [hm])) d h
theorem take_grow {L : List Dat} {j : Nat} {d : Dat} (h : L[j]? = some d) : L.take (j + 1) = L.take j ++ [d] := by rw [List.take_add_one, h]; rfl
theorem Grow.copied9 {w8 : World} {E : TypeId} {k lo m c8 : Nat} {A8 : Option Addr} {L : List Dat} (G : Grow E k lo w8 A8 m c8 L (fun _ => False ∨ False)) : Grow E k lo w8 A8 m c8 L (fun _ => False) := G.noF (fun b h => h.elim (fun h => h) (fun h => h))
end Go.Proofs.Ytchofnligbgigaa
