/- Of no program: what the texts of several chapters want. -/
import Derived.Test.YtmeacgpebpfpbaaTyE0
import Derived.LoopTactic
import Derived.Lib.Hide
import Derived.Deep.QuietTactic
import Derived.BigQuiet
import Derived.Deep.RegionWith
import Derived.Handy
namespace Go.Proofs.Ytmeacgpebpfpbaa
open Go.RowKit
set_option linter.unusedVariables false
set_option linter.unusedSimpArgs false
noncomputable def eqD (L M : List Dat) : Bool := @decide (L = M) (Classical.propDecidable _)

noncomputable def eq1 (d d' : Dat) : Bool := @decide (d = d') (Classical.propDecidable _)

theorem Held.drewN {W w : World} {l : List (Nat × List Value)} (h : Held W l w) (m : Nat) : Held W l (w.drewN m) := ⟨below_drewN h.1 m, h.2⟩

theorem Grow.lit9 (E : TypeId) (k : Nat) (w : World) : Grow E k w.heap.size (w.alloc (.cells #[] E)) (some ⟨w.heap.size, 0, none⟩) 0 0 [] (fun _ => False) := by
  refine ⟨[], ⟨by simp, Or.inr ⟨w.heap.size, 0, #[], rfl, Nat.le_refl _, ?_, Nat.le_refl _, Nat.zero_le _, by simp, by simp⟩⟩, (by rw [OwnsAll]), rfl, (fun x hx => by cases hx), (fun a e => ⟨fun h => h, ?_⟩), (fun b hb => hb.elim)⟩
  · show (w.heap.push _)[w.heap.size]? = _
    simp
  · obtain rfl := Option.some.inj e
    simp

def MarkedD (L : List Dat) (A : Option Addr) (n c : Nat) (z : Int) (B : Nat → Prop) (w : World) (e : Ending) (w' : World) : Prop := e = .returned (.int .i64 (z + cntAll L)) ∧ Owns w' (.l (mkAll L z)) [.slice A n c] B ∧ Touch B w w'

theorem heap_set {w : World} {g o : Nat} {C : Array Value} {t : TypeId} {fz : Nat × Nat} (h : w.heap[g]? = some (.cells C t fz)) (v : Value) : (w.setCell ⟨g, o, none⟩ v).heap[g]? = some (.cells (C.setIfInBounds o v) t fz) := cell_set h v

theorem Box.c12 {b : Nat} {w : World} {v0 v1 v2 v3 v4 v5 v6 v7 v8 v9 v10 v11 : Value} (h : Box b [v0, v1, v2, v3, v4, v5, v6, v7, v8, v9, v10, v11] w) : w.cell? ⟨b, 0, none⟩ = some v0 ∧ w.cell? ⟨b, 1, none⟩ = some v1 ∧ w.cell? ⟨b, 2, none⟩ = some v2 ∧ w.cell? ⟨b, 3, none⟩ = some v3 ∧ w.cell? ⟨b, 4, none⟩ = some v4 ∧ w.cell? ⟨b, 5, none⟩ = some v5 ∧ w.cell? ⟨b, 6, none⟩ = some v6 ∧ w.cell? ⟨b, 7, none⟩ = some v7 ∧ w.cell? ⟨b, 8, none⟩ = some v8 ∧ w.cell? ⟨b, 9, none⟩ = some v9 ∧ w.cell? ⟨b, 10, none⟩ = some v10 ∧ w.cell? ⟨b, 11, none⟩ = some v11 :=
  ⟨h.2 0 _ rfl, h.2 1 _ rfl, h.2 2 _ rfl, h.2 3 _ rfl, h.2 4 _ rfl, h.2 5 _ rfl, h.2 6 _ rfl, h.2 7 _ rfl, h.2 8 _ rfl, h.2 9 _ rfl, h.2 10 _ rfl, h.2 11 _ rfl⟩

theorem St.c12 {W w : World} {l : List (Nat × List Value)} {m : List (Dat × List Value)} {b : Nat} {v0 v1 v2 v3 v4 v5 v6 v7 v8 v9 v10 v11 : Value} (h : St W l m w) (hm : (b, [v0, v1, v2, v3, v4, v5, v6, v7, v8, v9, v10, v11]) ∈ l) : w.cell? ⟨b, 0, none⟩ = some v0 ∧ w.cell? ⟨b, 1, none⟩ = some v1 ∧ w.cell? ⟨b, 2, none⟩ = some v2 ∧ w.cell? ⟨b, 3, none⟩ = some v3 ∧ w.cell? ⟨b, 4, none⟩ = some v4 ∧ w.cell? ⟨b, 5, none⟩ = some v5 ∧ w.cell? ⟨b, 6, none⟩ = some v6 ∧ w.cell? ⟨b, 7, none⟩ = some v7 ∧ w.cell? ⟨b, 8, none⟩ = some v8 ∧ w.cell? ⟨b, 9, none⟩ = some v9 ∧ w.cell? ⟨b, 10, none⟩ = some v10 ∧ w.cell? ⟨b, 11, none⟩ = some v11 := Box.c12 (h.1.2 _ hm)

theorem Box.c7 {b : Nat} {w : World} {v0 v1 v2 v3 v4 v5 v6 : Value} (h : Box b [v0, v1, v2, v3, v4, v5, v6] w) : w.cell? ⟨b, 0, none⟩ = some v0 ∧ w.cell? ⟨b, 1, none⟩ = some v1 ∧ w.cell? ⟨b, 2, none⟩ = some v2 ∧ w.cell? ⟨b, 3, none⟩ = some v3 ∧ w.cell? ⟨b, 4, none⟩ = some v4 ∧ w.cell? ⟨b, 5, none⟩ = some v5 ∧ w.cell? ⟨b, 6, none⟩ = some v6 := ⟨h.2 0 _ rfl, h.2 1 _ rfl, h.2 2 _ rfl, h.2 3 _ rfl, h.2 4 _ rfl, h.2 5 _ rfl, h.2 6 _ rfl⟩

def GivesX (v : Value) (w : World) (e : Ending) (w' : World) : Prop := e = .returned v ∧ Below w.heap.size w w'

theorem GivesX.ret {v : Value} {w w' : World} (hb : Below w.heap.size w w') : GivesX v w (.returned v) w' := ⟨rfl, hb⟩

def idxFrom (p : Dat → Bool) : List Dat → Int → Int
  | [], _ => -1
  | d :: L, i => if p d then i else idxFrom p L (i + 1)

def idx (p : Dat → Bool) (L : List Dat) : Int := idxFrom p L 0

theorem idxFrom_at {p : Dat → Bool} : ∀ {L : List Dat} {i : Nat} {k : Int} {d : Dat}, (∀ (j : Nat) (e : Dat), j < i → L[j]? = some e → p e = false) → L[i]? = some d → p d = true → idxFrom p L k = k + i
  | [], _, _, _, _, h, _ => by simp at h
  | x :: L, 0, k, d, _, h, hn => by
    obtain rfl : x = d := by simpa using h
    rw [idxFrom, if_pos hn]; simp
  | x :: L, i + 1, k, d, h0, h, hn => by
    rw [idxFrom, if_neg (by rw [h0 0 x (by omega) rfl]; simp), idxFrom_at (i := i) (fun j e hj he => h0 (j + 1) e (by omega) (by simpa using he)) (by simpa using h) hn]
    omega

theorem idxFrom_none {p : Dat → Bool} : ∀ {L : List Dat} {k : Int}, (∀ (j : Nat) (e : Dat), L[j]? = some e → p e = false) → idxFrom p L k = -1
  | [], _, _ => rfl
  | x :: L, k, h0 => by
    rw [idxFrom, if_neg (by rw [h0 0 x rfl]; simp)]
    exact idxFrom_none (fun j e he => h0 (j + 1) e (by simpa using he))

theorem idx_at {p : Dat → Bool} {L : List Dat} {i : Nat} {d : Dat} (h : ∀ (j : Nat) (e : Dat), j < i → L[j]? = some e → p e = false) (hd : L[i]? = some d) (hn : p d = true) : (i : Int) = idx p L := by
  rw [idx, idxFrom_at h hd hn]; simp

theorem idx_none {p : Dat → Bool} {L : List Dat} (h : ∀ (j : Nat) (e : Dat), L[j]? = some e → p e = false) : -1 = idx p L := (idxFrom_none h).symm

theorem idxFrom_cases (p : Dat → Bool) : ∀ (L : List Dat) (k : Int), (idxFrom p L k = -1 ∧ ∀ x ∈ L, p x = false) ∨ ∃ (i : Nat) (d : Dat), idxFrom p L k = k + i ∧ L[i]? = some d ∧ p d = true
  | [], _ => Or.inl ⟨rfl, fun x hx => by cases hx⟩
  | x :: L, k => by
    rw [idxFrom]
    cases h : p x with
    | true => exact Or.inr ⟨0, x, by simp, rfl, h⟩
    | false =>
      rw [if_neg (by simp)]
      rcases idxFrom_cases p L (k + 1) with ⟨h1, h2⟩ | ⟨i, d, h1, h2, h3⟩
      · refine Or.inl ⟨h1, fun y hy => ?_⟩
        rcases List.mem_cons.1 hy with rfl | hy
        · exact h
        · exact h2 y hy
      · exact Or.inr ⟨i + 1, d, by rw [h1]; omega, by simpa using h2, h3⟩

theorem idx_cases (p : Dat → Bool) (L : List Dat) : (idx p L = -1 ∧ ∀ x ∈ L, p x = false) ∨ ∃ (i : Nat) (d : Dat), idx p L = i ∧ L[i]? = some d ∧ p d = true ∧ i < L.length := by
  rcases idxFrom_cases p L 0 with h | ⟨i, d, h1, h2, h3⟩
  · exact Or.inl h
  · exact Or.inr ⟨i, d, by rw [idx, h1]; omega, h2, h3, (List.getElem?_eq_some_iff.1 h2).1⟩

def fld (k : Nat) : Dat → Int
  | .r ds => match ds[k]? with
    | some (.i n) => n
    | _ => 0
  | _ => 0

def isF (k : Nat) (x : Int) (d : Dat) : Bool := fld k d == x

theorem isF_t {k : Nat} {x : Int} {d : Dat} (h : fld k d = x) : isF k x d = true := by simp [isF, h]

theorem isF_f {k : Nat} {x : Int} {d : Dat} (h : ¬ fld k d = x) : isF k x d = false := by simp [isF, h]

theorem Grow.blkF {E : TypeId} {k lo : Nat} {w : World} {A : Option Addr} {n c : Nat} {L : List Dat} {B : Nat → Prop} (h : Grow E k lo w A n c L B) : ∀ a, A = some a → lo ≤ a.block ∧ a.block < w.heap.size := fun a e => by
  subst e
  have := h.own a.block (by simp [Value.ownBlock])
  exact ⟨this.1, this.2.1⟩

theorem Grow.moreF {E : TypeId} {k lo lo' : Nat} {w : World} {A : Option Addr} {n c : Nat} {L : List Dat} {B : Nat → Prop} (h : Grow E k lo w A n c L B) (hl : ∀ a, A = some a → lo' ≤ a.block) : Grow E k lo' w A n c L B := by
  obtain ⟨xs, h1, h2⟩ := h
  refine ⟨xs, ⟨h1.1, ?_⟩, h2⟩
  rcases h1.2 with hn | ⟨g, cap, cur, hv, hb, r⟩
  · exact .inl hn
  · have hAe : A = some ⟨g, 0, none⟩ := by injection hv
    exact .inr ⟨g, cap, cur, hv, hl _ hAe, r⟩

theorem Grow.noF {E : TypeId} {k lo : Nat} {w : World} {A : Option Addr} {n c : Nat} {L : List Dat} {B : Nat → Prop} (h : Grow E k lo w A n c L B) (hB : ∀ b, ¬ B b) : Grow E k lo w A n c L (fun _ => False) := by
  obtain ⟨xs, h1, h2, h3, h4, h5, h6⟩ := h
  exact ⟨xs, h1, h2.mono (fun b hb => hB b hb), h3, h4, fun a e => ⟨fun h => h, (h5 a e).2⟩, fun b h => h.elim⟩

def Zx (g : Nat) (cs : List Value) (w : World) : Prop := Box g cs w ∧ ∀ j, w.frozen? ⟨g, j, none⟩ = false

theorem Zx.new (w : World) (cs : Array Value) (T : TypeId) : Zx w.heap.size cs.toList (w.alloc (.cells cs T)) := ⟨Box.new w cs T, fun j => by simp [go_sem]⟩

theorem Zx.lt {g : Nat} {cs : List Value} {w : World} (h : Zx g cs w) : g < w.heap.size := h.1.1

theorem Zx.low {g B : Nat} {cs : List Value} {w w' : World} (h : Zx g cs w) (hb : Below B w w') (hg : g < B) : Zx g cs w' :=
  ⟨⟨Nat.lt_of_lt_of_le h.1.1 hb.size, fun i v hv => (hb.cell (p := ⟨g, i, none⟩) hg).trans (h.1.2 i v hv)⟩, fun j => (hb.frozen (p := ⟨g, j, none⟩) hg).trans (h.2 j)⟩

theorem Zx.below {g : Nat} {cs : List Value} {w w' : World} (h : Zx g cs w) (hb : Below w.heap.size w w') : Zx g cs w' := h.low hb h.1.1

theorem Zx.put {g : Nat} {cs : List Value} {w : World} (h : Zx g cs w) (i : Nat) (v : Value) : Zx g (cs.set i v) (w.setCell ⟨g, i, none⟩ v) := ⟨h.1.put i v, fun j => by rw [World.frozen?_setCell]; exact h.2 j⟩

theorem Zx.far {g g' i : Nat} {cs : List Value} {w : World} {v : Value} (h : Zx g cs w) (hn : g' ≠ g) : Zx g cs (w.setCell ⟨g', i, none⟩ v) := ⟨h.1.far hn v, fun j => by rw [World.frozen?_setCell]; exact h.2 j⟩

theorem Zx.touch {g : Nat} {S : Nat → Prop} {cs : List Value} {w w' : World} (h : Zx g cs w) (ht : Touch S w w') (hn : ¬ S g) : Zx g cs w' := ⟨h.1.touch ht hn, fun j => (World.frozen?_of_block (w := w) (w' := w') (a := ⟨g, j, none⟩) (ht.block g h.1.1 hn)).trans (h.2 j)⟩

theorem idx_first {p : Dat → Bool} : ∀ {L : List Dat} {k : Int} {i : Nat}, idxFrom p L k = k + i → (∀ (j : Nat) (e : Dat), j < i → L[j]? = some e → p e = false)
  | [], _, _, _ => fun j e _ h => by simp at h
  | x :: L, k, i, h => fun j e hj he => by
    rw [idxFrom] at h
    cases hp : p x with
    | true => rw [hp, if_pos rfl] at h; omega
    | false =>
      rw [hp, if_neg (by simp)] at h
      cases j with
      | zero => obtain rfl : x = e := by simpa using he
                exact hp
      | succ j =>
        obtain ⟨i', rfl⟩ : ∃ i', i = i' + 1 := ⟨i - 1, by omega⟩
        exact idx_first (k := k + 1) (i := i') (by rw [h]; omega) j e (by omega) (by simpa using he)

theorem idx_cases1 (p : Dat → Bool) (L : List Dat) : (idx p L = -1 ∧ ∀ x ∈ L, p x = false) ∨ ∃ (i : Nat) (d : Dat), idx p L = i ∧ L[i]? = some d ∧ p d = true ∧ i < L.length ∧ ∀ (j : Nat) (e : Dat), j < i → L[j]? = some e → p e = false := by
  rcases idx_cases p L with h | ⟨i, d, h1, h2, h3, h4⟩
  · exact Or.inl h
  · exact Or.inr ⟨i, d, h1, h2, h3, h4, idx_first (k := 0) (by rw [← idx, h1]; omega)⟩

theorem no_next {p : Dat → Bool} {L : List Dat} {i : Nat} {d : Dat} (h : ∀ (j : Nat) (e : Dat), j < i → L[j]? = some e → p e = false) (hd : L[i]? = some d) (hp : p d = false) : ∀ (j : Nat) (e : Dat), j < i + 1 → L[j]? = some e → p e = false := fun j e hj hje => by
  by_cases hji : j < i
  · exact h j e hji hje
  · obtain rfl : j = i := by omega
    rw [hd] at hje
    obtain rfl := Option.some.inj hje
    exact hp

theorem Zx.box {g : Nat} {cs : List Value} {w : World} (h : Zx g cs w) : Box g cs w := h.1

theorem Zx.drewB {g : Nat} {cs : List Value} {w : World} (h : Zx g cs w) : Zx g cs w.drew := h.below (Below.refl _ _).drew

theorem results_box2 {P : Program} {fn : Func} {p q : Tmp} {ty : TypeId} (h : fn.results = #[.cell p ty, .tmp q]) (tmps : Array Value) (w : World) (g : Nat) (cs : List Value) (v : Value) (d : TypeDesc)
    (hp : tmps.getD p undef = .pointer (some ⟨g, 0, none⟩)) (hq : tmps.getD q undef = v) (hc : Box g cs w)
    (hu : P.underlying ty = some d) (hd : d.isRow = true) (hi : (P.info? ty).map (·.size) = some cs.length) :
    (results fn tmps).run P w = .ok (.tuple #[.agg cs.toArray, v]) w := by
  have hp' : tmps[p]?.getD undef = .pointer (some ⟨g, 0, none⟩) := by simpa using hp
  have hq' : tmps[q]?.getD undef = v := by simpa using hq
  simp [results, h, hp', hq', asAddr, run_loadVar_mid w g 0 ty cs d hc.range hu hd hi]
end Go.Proofs.Ytmeacgpebpfpbaa
