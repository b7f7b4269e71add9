/- Chapter 10, of no program: data that are alike; the first element that ..; rows of flat records that grow and are stored into; a link's three lists. -/
import Derived.Test.YtmeacgpebpfpbaaCom
import Derived.Test.YtmeacgpebpfpbaaTyG1
import Derived.LoopTactic
import Derived.Lib.Hide
import Derived.Deep.QuietTactic
import Derived.BigQuiet
import Derived.Deep.RegionWith
import Derived.Handy
namespace Go.Proofs.Ytmeacgpebpfpbaa
open Go.RowKit
set_option linter.unusedVariables false
set_option linter.unusedSimpArgs false
def ic : Dat → List Value
  | .i n => [.int .i64 n]
  | .r [.i a, .i b] => [.int .i64 a, .int .i64 b]
  | .r [.i a, .i b, .i c] => [.int .i64 a, .int .i64 b, .int .i64 c]
  | _ => []
def X3 (d : Dat) : Prop := ∃ a b c : Int, d = .r [.i a, .i b, .i c]
def X2 (d : Dat) : Prop := ∃ a b : Int, d = .r [.i a, .i b]
theorem x3_of {d : Dat} (h : Has tyExport d) : X3 d := by
  simp only [tyExport, Has, HasAll] at h
  obtain ⟨ds, rfl, d0, _, rfl, ⟨a, rfl, -, -⟩, d1, _, rfl, ⟨b, rfl, -, -⟩, d2, _, rfl, ⟨c, rfl, -, -⟩, rfl⟩ := h
  exact ⟨a, b, c, rfl⟩
theorem x2_of {d : Dat} (h : Has tyQuestion d) : X2 d := by
  simp only [tyQuestion, Has, HasAll] at h
  obtain ⟨ds, rfl, d0, _, rfl, ⟨a, rfl, -, -⟩, d1, _, rfl, ⟨b, rfl, -, -⟩, rfl⟩ := h
  exact ⟨a, b, rfl⟩
theorem X3.flat {d : Dat} (h : X3 d) : d.flat = true := by obtain ⟨a, b, c, rfl⟩ := h; rfl
theorem X2.flat {d : Dat} (h : X2 d) : d.flat = true := by obtain ⟨a, b, rfl⟩ := h; rfl
theorem X3.width {d : Dat} (h : X3 d) : d.width = 3 := by obtain ⟨a, b, c, rfl⟩ := h; rfl
theorem X2.width {d : Dat} (h : X2 d) : d.width = 2 := by obtain ⟨a, b, rfl⟩ := h; rfl
theorem X3.lies {w : World} {d : Dat} {cs : List Value} (h : X3 d) : Lies w d cs ↔ cs = ic d := by
  obtain ⟨a, b, c, rfl⟩ := h
  simp only [Lies, LiesAll, ic]
  constructor
  · rintro ⟨c1, c2, rfl, rfl, c3, c4, rfl, rfl, c5, c6, rfl, rfl, rfl⟩; rfl
  · rintro rfl; exact ⟨_, _, rfl, rfl, _, _, rfl, rfl, _, _, rfl, rfl, rfl⟩
theorem X2.lies {w : World} {d : Dat} {cs : List Value} (h : X2 d) : Lies w d cs ↔ cs = ic d := by
  obtain ⟨a, b, rfl⟩ := h
  simp only [Lies, LiesAll, ic]
  constructor
  · rintro ⟨c1, c2, rfl, rfl, c3, c4, rfl, rfl, rfl⟩; rfl
  · rintro rfl; exact ⟨_, _, rfl, rfl, _, _, rfl, rfl, rfl⟩
structure Ic (k : Nat) (d : Dat) : Prop where
  lies : ∀ (w : World) (cs : List Value), Lies w d cs ↔ cs = ic d
  flat : d.flat = true
  width : d.width = k
  len : (ic d).length = k
theorem X3.ic {d : Dat} (h : X3 d) : Ic 3 d := ⟨fun w cs => h.lies, h.flat, h.width, by obtain ⟨a, b, c, rfl⟩ := h; rfl⟩
theorem X2.ic {d : Dat} (h : X2 d) : Ic 2 d := ⟨fun w cs => h.lies, h.flat, h.width, by obtain ⟨a, b, rfl⟩ := h; rfl⟩
theorem liesAll_ic {w : World} {k : Nat} : ∀ {L : List Dat} {cs : List Value}, (∀ x ∈ L, Ic k x) → (LiesAll w L cs ↔ cs = L.flatMap ic)
  | [], cs, _ => by rw [LiesAll]; rfl
  | d :: L, cs, h => by
    rw [LiesAll, List.flatMap_cons]
    constructor
    · rintro ⟨c1, c2, rfl, h1, h2⟩
      rw [((h d List.mem_cons_self).lies w c1).1 h1, (liesAll_ic (fun x hx => h x (List.mem_cons_of_mem _ hx))).1 h2]
    · rintro rfl
      exact ⟨_, _, rfl, ((h d List.mem_cons_self).lies w _).2 rfl, (liesAll_ic (fun x hx => h x (List.mem_cons_of_mem _ hx))).2 rfl⟩
theorem ic_set {k : Nat} {v : Value} {d' : Dat} {j : Nat} (hj : j < k) : ∀ {L : List Dat} {i : Nat} {d : Dat}, (∀ x ∈ L, Ic k x) → L[i]? = some d → ic d' = (ic d).set j v → (L.set i d').flatMap ic = (L.flatMap ic).set (i * k + j) v
  | [], i, d, _, h, _ => by simp at h
  | x :: L, 0, d, hL, h, e => by
    obtain rfl : x = d := by simpa using h
    have hl := (hL x List.mem_cons_self).len
    rw [List.set_cons_zero, List.flatMap_cons, List.flatMap_cons, e, Nat.zero_mul, Nat.zero_add, List.set_append_left _ _ (by omega)]
  | x :: L, i + 1, d, hL, h, e => by
    have hl := (hL x List.mem_cons_self).len
    have e1 : (i + 1) * k + j - (ic x).length = i * k + j := by rw [hl, Nat.add_mul, Nat.one_mul]; omega
    have e2 : (ic x).length ≤ (i + 1) * k + j := by rw [hl, Nat.add_mul, Nat.one_mul]; omega
    rw [List.set_cons_succ, List.flatMap_cons, List.flatMap_cons, ic_set hj (fun y hy => hL y (List.mem_cons_of_mem _ hy)) (by simpa using h) e, List.set_append_right _ _ e2, e1]
theorem mem_set_or {L : List Dat} {i : Nat} {d' x : Dat} (h : x ∈ L.set i d') : x = d' ∨ x ∈ L := (List.mem_or_eq_of_mem_set h).symm
theorem grow_iff {E : TypeId} {k lo : Nat} {w : World} {A : Option Addr} {n c : Nat} {L : List Dat} (hI : ∀ x ∈ L, Ic k x) : Grow E k lo w A n c L (fun _ => False) ↔ (w.ownsRow lo E k (.slice A n c) n (L.flatMap ic) ∧ L.length = n ∧ ∀ a, A = some a → a.block < w.heap.size) := by
  constructor
  · rintro ⟨xs, h1, h2, h3, h4, h5, h6⟩
    rw [(liesAll_ic hI).1 h2.lies] at h1
    exact ⟨h1, h3, fun a e => (h5 a e).2⟩
  · rintro ⟨h1, h2, h3⟩
    exact ⟨_, h1, LiesAll.owns (flatAll_of (fun x hx => (hI x hx).flat)) ((liesAll_ic hI).2 rfl), h2, fun x hx => (hI x hx).width, fun a e => ⟨fun h => h, h3 a e⟩, fun b h => h.elim⟩
theorem Grow.set1 {E : TypeId} {k lo : Nat} {w : World} {g n c : Nat} {L : List Dat} {i j : Nat} {d d' : Dat} {v : Value} (h : Grow E k lo w (some ⟨g, 0, none⟩) n c L (fun _ => False)) (hI : ∀ x ∈ L, Ic k x) (hI' : Ic k d') (hd : L[i]? = some d) (hj : j < k) (e : ic d' = (ic d).set j v) :
    Grow E k lo (w.setCell ⟨g, i * k + j, none⟩ v) (some ⟨g, 0, none⟩) n c (L.set i d') (fun _ => False) := by
  obtain ⟨h1, h2, h3⟩ := (grow_iff hI).1 h
  refine (grow_iff (fun x hx => (mem_set_or hx).elim (fun e => e ▸ hI') (hI x))).2 ⟨?_, by rw [List.length_set, h2], fun a e => by rw [World.size_setCell]; exact h3 a e⟩
  rw [ic_set hj hI hd e]
  refine ⟨by rw [List.length_set]; exact h1.1, ?_⟩
  rcases h1.2 with ⟨hv, -⟩ | ⟨g', cap, cur, hv, hb, hgg, r1, r2, r3, r4⟩
  · cases hv
  · obtain ⟨rfl, rfl⟩ : g = g' ∧ c = cap := by injection hv with a b c; injection a with a; injection a with a; exact ⟨a, c⟩
    refine .inr ⟨g, c, _, rfl, hb, cell_set hgg v, r1, r2, by simpa using r3, ?_⟩
    rw [Array.toList_setIfInBounds, ← r4, List.take_set]
theorem Grow.elem {E : TypeId} {k lo : Nat} {w : World} {A : Option Addr} {n c i : Nat} {L : List Dat} {d : Dat} (h : Grow E k lo w A n c L (fun _ => False)) (hI : ∀ x ∈ L, Ic k x) (hd : L[i]? = some d) :
    ∃ g, A = some ⟨g, 0, none⟩ ∧ lo ≤ g ∧ g < w.heap.size ∧ n ≤ c ∧ (∀ (j : Nat) (v : Value), (ic d)[j]? = some v → w.cell? ⟨g, i * k + j, none⟩ = some v) ∧ ∀ o, w.frozen? ⟨g, o, none⟩ = false := by
  have hi := (List.getElem?_eq_some_iff.1 hd).1
  have hl := h.owns.lies.elem (fun x hx => (hI x hx).width) (i := i) (by have := h.owns.lies.count; omega)
  obtain ⟨h1, h2, h3⟩ := (grow_iff hI).1 h
  rcases h1.2 with ⟨hv, hn⟩ | ⟨g', cap, cur, hv, hb, hgg, r1, r2, r3, r4⟩
  · omega
  · obtain ⟨rfl, rfl⟩ : A = some ⟨g', 0, none⟩ ∧ c = cap := by injection hv with a b c; exact ⟨a, c⟩
    refine ⟨g', rfl, hb, (Array.getElem?_eq_some_iff.1 hgg).1, r1, ?_, fun o => by simp [World.frozen?, hgg]⟩
    obtain ⟨b, off, d2, xs, e, hbw, hzi, hlie, hlen, hcell⟩ := hl
    obtain ⟨rfl, rfl⟩ : b = g' ∧ off = 0 := by injection e with e; injection e with a b; exact ⟨a.symm, b.symm⟩
    rw [hd] at hzi
    obtain rfl := Option.some.inj hzi
    rw [((hI d (List.mem_of_getElem? hd)).lies w xs).1 hlie] at hcell
    intro j v hv
    have := hcell j v hv
    rwa [Nat.zero_add] at this
def Apart (A A' : Option Addr) : Prop := ∀ a a', A = some a → A' = some a' → a.block ≠ a'.block
theorem Apart.symm {A A' : Option Addr} (h : Apart A A') : Apart A' A := fun a a' e e' x => h a' a e' e x.symm
structure Link3 (lo : Nat) (w : World) (L2 : List Dat) (A2 : Option Addr) (n2 c2 : Nat) (L4 : List Dat) (A4 : Option Addr) (n4 c4 : Nat) (L6 : List Dat) (A6 : Option Addr) (n6 c6 : Nat) : Prop where
  g2 : Grow 174 3 lo w A2 n2 c2 L2 (fun _ => False)
  g4 : Grow 177 2 lo w A4 n4 c4 L4 (fun _ => False)
  g6 : Grow 177 2 lo w A6 n6 c6 L6 (fun _ => False)
  p24 : Apart A2 A4
  p26 : Apart A2 A6
  p46 : Apart A4 A6
def Own3 (lo hi : Nat) (w : World) (L2 : List Dat) (A2 : Option Addr) (n2 c2 : Nat) (L4 : List Dat) (A4 : Option Addr) (n4 c4 : Nat) (L6 : List Dat) (A6 : Option Addr) (n6 c6 : Nat) : Prop :=
  ∃ S2 S4 S6 : Nat → Prop, Owns w (.l L2) [.slice A2 n2 c2] S2 ∧ Owns w (.l L4) [.slice A4 n4 c4] S4 ∧ Owns w (.l L6) [.slice A6 n6 c6] S6 ∧
    (∀ b, S2 b → rng lo hi b ∧ ¬ S4 b ∧ ¬ S6 b) ∧ (∀ b, S4 b → rng lo hi b ∧ ¬ S6 b) ∧ ∀ b, S6 b → rng lo hi b
section
variable {lo hi : Nat} {w w' : World} {L2 : List Dat} {A2 : Option Addr} {n2 c2 : Nat} {L4 : List Dat} {A4 : Option Addr} {n4 c4 : Nat} {L6 : List Dat} {A6 : Option Addr} {n6 c6 : Nat}
theorem Link3.below (h : Link3 lo w L2 A2 n2 c2 L4 A4 n4 c4 L6 A6 n6 c6) (hb : Below w.heap.size w w') : Link3 lo w' L2 A2 n2 c2 L4 A4 n4 c4 L6 A6 n6 c6 := ⟨h.g2.below hb, h.g4.below hb, h.g6.below hb, h.p24, h.p26, h.p46⟩
theorem Link3.touch {S : Nat → Prop} (h : Link3 lo w L2 A2 n2 c2 L4 A4 n4 c4 L6 A6 n6 c6) (ht : Touch S w w') (hS : ∀ b, lo ≤ b → b < w.heap.size → ¬ S b) : Link3 lo w' L2 A2 n2 c2 L4 A4 n4 c4 L6 A6 n6 c6 :=
  ⟨h.g2.touch ht (fun x e => hS _ (h.g2.blkF x e).1 (h.g2.blkF x e).2) (fun _ h => h.elim), h.g4.touch ht (fun x e => hS _ (h.g4.blkF x e).1 (h.g4.blkF x e).2) (fun _ h => h.elim), h.g6.touch ht (fun x e => hS _ (h.g6.blkF x e).1 (h.g6.blkF x e).2) (fun _ h => h.elim), h.p24, h.p26, h.p46⟩
theorem Link3.own (h : Link3 lo w L2 A2 n2 c2 L4 A4 n4 c4 L6 A6 n6 c6) : Own3 lo w.heap.size w L2 A2 n2 c2 L4 A4 n4 c4 L6 A6 n6 c6 := by
  refine ⟨(fun b => ∃ a, A2 = some a ∧ b = a.block), (fun b => ∃ a, A4 = some a ∧ b = a.block), (fun b => ∃ a, A6 = some a ∧ b = a.block), h.g2.owns.mono ?_, h.g4.owns.mono ?_, h.g6.owns.mono ?_, ?_, ?_, ?_⟩
  · exact fun b hb => hb.elim (fun h => h) (fun h => h.elim)
  · exact fun b hb => hb.elim (fun h => h) (fun h => h.elim)
  · exact fun b hb => hb.elim (fun h => h) (fun h => h.elim)
  · rintro b ⟨x, e, rfl⟩
    exact ⟨h.g2.blkF x e, fun ⟨y, e', hy⟩ => h.p24 x y e e' hy, fun ⟨y, e', hy⟩ => h.p26 x y e e' hy⟩
  · rintro b ⟨x, e, rfl⟩
    exact ⟨h.g4.blkF x e, fun ⟨y, e', hy⟩ => h.p46 x y e e' hy⟩
  · rintro b ⟨x, e, rfl⟩
    exact h.g6.blkF x e
theorem Own3.below (h : Own3 lo hi w L2 A2 n2 c2 L4 A4 n4 c4 L6 A6 n6 c6) (hb : Below w.heap.size w w') : Own3 lo hi w' L2 A2 n2 c2 L4 A4 n4 c4 L6 A6 n6 c6 := by
  obtain ⟨S2, S4, S6, h2, h4, h6, r⟩ := h
  exact ⟨S2, S4, S6, h2.below hb, h4.below hb, h6.below hb, r⟩
theorem Own3.touch {S : Nat → Prop} (h : Own3 lo hi w L2 A2 n2 c2 L4 A4 n4 c4 L6 A6 n6 c6) (ht : Touch S w w') (hS : ∀ b, rng lo hi b → ¬ S b) : Own3 lo hi w' L2 A2 n2 c2 L4 A4 n4 c4 L6 A6 n6 c6 := by
  obtain ⟨S2, S4, S6, h2, h4, h6, r2, r4, r6⟩ := h
  exact ⟨S2, S4, S6, h2.touch ht (fun b hb => hS b (r2 b hb).1), h4.touch ht (fun b hb => hS b (r4 b hb).1), h6.touch ht (fun b hb => hS b (r6 b hb)), r2, r4, r6⟩
theorem Own3.mono {lo' hi' : Nat} (h : Own3 lo hi w L2 A2 n2 c2 L4 A4 n4 c4 L6 A6 n6 c6) (hl : ∀ b, rng lo hi b → rng lo' hi' b) : Own3 lo' hi' w L2 A2 n2 c2 L4 A4 n4 c4 L6 A6 n6 c6 := by
  obtain ⟨S2, S4, S6, h2, h4, h6, r2, r4, r6⟩ := h
  exact ⟨S2, S4, S6, h2, h4, h6, fun b hb => ⟨hl b (r2 b hb).1, (r2 b hb).2⟩, fun b hb => ⟨hl b (r4 b hb).1, (r4 b hb).2⟩, fun b hb => hl b (r6 b hb)⟩
theorem Own3.l2 (h : Own3 lo hi w L2 A2 n2 c2 L4 A4 n4 c4 L6 A6 n6 c6) : Lies w (.l L2) [.slice A2 n2 c2] := by obtain ⟨S2, S4, S6, h2, h4, h6, r⟩ := h; exact h2.lies
end
end Go.Proofs.Ytmeacgpebpfpbaa
