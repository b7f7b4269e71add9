/- Of no program: data in memory: integers, strings, bools, records, slices of any of these, nested.
   Of no program: data that a call owns: which blocks, each once; what a store or another call leaves of it.
   Of no program: a slice that was made, filled element by element.
   Of no program: what a law is handed, as data.
   Of no program: 'append' onto a slice of nested data that the call owns.
   Of no program: rows that grow, nested: an element is owned with its own rows, which may grow further; 'append' of a new element; the last element taken out, changed and put back.
   The laws' text of a mark.
   Of no program (but for the text of a mark): what marks leave of data.
   Of no program: how many marks data bear, by how much a law counts them; blocks of a range. -/
import Derived.Test.YtmeacgpebpfpbaaBase
import Derived.Deep.Slices
import Derived.Deep.Fields
import Derived.ChangeSame
import Derived.Lib.SmallJoins
import Derived.Laws.MakeOwn
import Derived.Laws.IdiomStrings
import Derived.Laws.Concat
import Derived.Handy
namespace Go.Proofs.Ytmeacgpebpfpbaa
open Go.RowKit Go.Joins Go.ChangeShapes Go.WideShapes Go.Deep
inductive Dat where
  | i (n : Int)
  | s (s : ByteArray)
  | b (b : Bool)
  | r (ds : List Dat)
  | l (ds : List Dat)
mutual
def Dat.width : Dat → Nat
  | .i _ => 1
  | .s _ => 1
  | .b _ => 1
  | .r ds => widthAll ds
  | .l _ => 1
def widthAll : List Dat → Nat
  | [] => 0
  | d :: ds => d.width + widthAll ds
end
mutual
def Lies (w : World) : Dat → List Value → Prop
  | .i n, cs => cs = [.int .i64 n]
  | .s x, cs => cs = [.string x]
  | .b x, cs => cs = [.bool x]
  | .r ds, cs => LiesAll w ds cs
  | .l ds, cs => ∃ A n c, cs = [.slice A n c] ∧ ds.length = n ∧ (ds = [] ∨ ∃ b off xs, A = some ⟨b, off, none⟩ ∧ (b < w.heap.size ∧ n ≤ c) ∧ LiesAll w ds xs ∧ ∀ (j : Nat) (v : Value), xs[j]? = some v → w.cell? ⟨b, off + j, none⟩ = some v)
def LiesAll (w : World) : List Dat → List Value → Prop
  | [], cs => cs = []
  | d :: ds, cs => ∃ c1 c2, cs = c1 ++ c2 ∧ Lies w d c1 ∧ LiesAll w ds c2
end
section
variable {w w' : World}
mutual
theorem Lies.len : ∀ {d : Dat} {cs : List Value}, Lies w d cs → cs.length = d.width
  | .i _, _, h => by rw [Lies] at h; subst h; rfl
  | .s _, _, h => by rw [Lies] at h; subst h; rfl
  | .b _, _, h => by rw [Lies] at h; subst h; rfl
  | .r ds, cs, h => by rw [Lies] at h; rw [Dat.width]; exact LiesAll.len h
  | .l _, _, h => by rw [Lies] at h; obtain ⟨A, n, c, rfl, -⟩ := h; rfl
theorem LiesAll.len : ∀ {ds : List Dat} {cs : List Value}, LiesAll w ds cs → cs.length = widthAll ds
  | [], _, h => by rw [LiesAll] at h; subst h; rfl
  | d :: ds, _, h => by
    rw [LiesAll] at h
    obtain ⟨c1, c2, rfl, h1, h2⟩ := h
    rw [List.length_append, widthAll, Lies.len h1, LiesAll.len h2]
end
mutual
theorem Lies.below (hb : Below w.heap.size w w') : ∀ {d : Dat} {cs : List Value}, Lies w d cs → Lies w' d cs
  | .i _, _, h => by rw [Lies] at h ⊢; exact h
  | .s _, _, h => by rw [Lies] at h ⊢; exact h
  | .b _, _, h => by rw [Lies] at h ⊢; exact h
  | .r ds, cs, h => by rw [Lies] at h ⊢; exact LiesAll.below hb h
  | .l ds, _, h => by
    rw [Lies] at h ⊢
    obtain ⟨A, n, c, rfl, hn, h⟩ := h
    refine ⟨A, n, c, rfl, hn, ?_⟩
    rcases h with h | ⟨b, off, xs, e, ⟨hlt, hnc⟩, hx, hc⟩
    · exact Or.inl h
    · exact Or.inr ⟨b, off, xs, e, ⟨Nat.lt_of_lt_of_le hlt hb.size, hnc⟩, LiesAll.below hb hx, fun j v hj => (hb.cell (p := ⟨b, off + j, none⟩) hlt).trans (hc j v hj)⟩
theorem LiesAll.below (hb : Below w.heap.size w w') : ∀ {ds : List Dat} {cs : List Value}, LiesAll w ds cs → LiesAll w' ds cs
  | [], _, h => by rw [LiesAll] at h ⊢; exact h
  | d :: ds, _, h => by
    rw [LiesAll] at h ⊢
    obtain ⟨c1, c2, rfl, h1, h2⟩ := h
    exact ⟨c1, c2, rfl, Lies.below hb h1, LiesAll.below hb h2⟩
end
theorem LiesAll.at_ {k : Nat} : ∀ {ds : List Dat} {cs : List Value} {i : Nat} {d : Dat}, LiesAll w ds cs → (∀ x ∈ ds, x.width = k) → ds[i]? = some d → ∃ xs, Lies w d xs ∧ xs.length = k ∧ ∀ (j : Nat) (v : Value), xs[j]? = some v → cs[i * k + j]? = some v
  | [], _, _, _, _, _, h => by simp at h
  | d :: ds, cs, 0, x, h, hk, hi => by
    rw [LiesAll] at h
    obtain ⟨c1, c2, rfl, h1, h2⟩ := h
    obtain rfl : d = x := by simpa using hi
    refine ⟨c1, h1, by rw [h1.len]; exact hk _ (by simp), fun j v hj => ?_⟩
    rw [Nat.zero_mul, Nat.zero_add, List.getElem?_append_left (List.getElem?_eq_some_iff.1 hj).1]
    exact hj
  | d :: ds, cs, i + 1, x, h, hk, hi => by
    rw [LiesAll] at h
    obtain ⟨c1, c2, rfl, h1, h2⟩ := h
    obtain ⟨xs, hx, hl, hc⟩ := LiesAll.at_ (i := i) (d := x) h2 (fun y hy => hk y (List.mem_cons_of_mem _ hy)) (by simpa using hi)
    refine ⟨xs, hx, hl, fun j v hj => ?_⟩
    have e1 : c1.length = k := by rw [h1.len]; exact hk _ (by simp)
    rw [List.getElem?_append_right (by rw [e1, Nat.add_mul]; omega), e1]
    have e : (i + 1) * k + j - k = i * k + j := by rw [Nat.add_mul]; omega
    rw [e]
    exact hc j v hj
theorem LiesAll.snoc : ∀ {ds : List Dat} {cs : List Value} {d : Dat} {c : List Value}, LiesAll w ds cs → Lies w d c → LiesAll w (ds ++ [d]) (cs ++ c)
  | [], cs, d, c, h, hd => by
    rw [LiesAll] at h
    subst h
    show LiesAll w [d] c
    rw [LiesAll]
    exact ⟨c, [], (List.append_nil c).symm, hd, rfl⟩
  | x :: ds, cs, d, c, h, hd => by
    rw [LiesAll] at h
    obtain ⟨c1, c2, rfl, h1, h2⟩ := h
    show LiesAll w (x :: (ds ++ [d])) _
    rw [LiesAll]
    exact ⟨c1, c2 ++ c, List.append_assoc _ _ _, h1, h2.snoc hd⟩
theorem Lies.elem {ds : List Dat} {A : Option Addr} {n c k i : Nat} (h : Lies w (.l ds) [.slice A n c]) (hk : ∀ x ∈ ds, x.width = k) (hi : i < n) :
    ∃ b off d xs, A = some ⟨b, off, none⟩ ∧ b < w.heap.size ∧ ds[i]? = some d ∧ Lies w d xs ∧ xs.length = k ∧ ∀ (j : Nat) (v : Value), xs[j]? = some v → w.cell? ⟨b, off + (i * k + j), none⟩ = some v := by
  rw [Lies] at h
  obtain ⟨A', n', c', e, hn, h⟩ := h
  simp only [List.cons.injEq, Value.slice.injEq, and_true] at e
  obtain ⟨rfl, rfl, rfl⟩ := e
  rcases h with rfl | ⟨b, off, xs, e, ⟨hlt, hnc⟩, hx, hc⟩
  · simp at hn; omega
  · have hd : ds[i]? = some (ds[i]'(by omega)) := List.getElem?_eq_getElem (by omega)
    obtain ⟨ys, hy, hl, hcc⟩ := hx.at_ hk hd
    exact ⟨b, off, _, ys, e, hlt, hd, hy, hl, fun j v hj => hc _ v (hcc j v hj)⟩
theorem Lies.cap {ds : List Dat} {A : Option Addr} {n c : Nat} (h : Lies w (.l ds) [.slice A n c]) : n ≤ c := by
  rw [Lies] at h
  obtain ⟨A', n', c', e, hn, h⟩ := h
  simp only [List.cons.injEq, Value.slice.injEq, and_true] at e
  obtain ⟨rfl, rfl, rfl⟩ := e
  rcases h with rfl | ⟨b, off, xs, e, ⟨hlt, hnc⟩, hx, hc⟩
  · simp at hn; omega
  · exact hnc
theorem Lies.count {ds : List Dat} {A : Option Addr} {n c : Nat} (h : Lies w (.l ds) [.slice A n c]) : ds.length = n := by
  rw [Lies] at h
  obtain ⟨A', n', c', e, hn, -⟩ := h
  simp only [List.cons.injEq, Value.slice.injEq, and_true] at e
  obtain ⟨rfl, rfl, rfl⟩ := e
  exact hn
end
mutual
def Dat.bulk : Dat → Nat
  | .i _ => 0
  | .s x => x.size
  | .b _ => 0
  | .r ds => bulkAll ds
  | .l ds => ds.length + bulkAll ds
def bulkAll : List Dat → Nat
  | [] => 0
  | d :: ds => d.bulk + bulkAll ds
end
theorem bulk_mem : ∀ {ds : List Dat} {d : Dat}, d ∈ ds → d.bulk ≤ bulkAll ds
  | [], _, h => by cases h
  | x :: ds, d, h => by
    rw [bulkAll]
    rcases List.mem_cons.1 h with rfl | h
    · omega
    · have := bulk_mem h; omega
inductive Ty where
  | int
  | str
  | bool
  | rcd (ts : List Ty)
  | sl (t : Ty)
mutual
def Ty.width : Ty → Nat
  | .int => 1
  | .str => 1
  | .bool => 1
  | .rcd ts => tyWidthAll ts
  | .sl _ => 1
def tyWidthAll : List Ty → Nat
  | [] => 0
  | t :: ts => t.width + tyWidthAll ts
end
mutual
def Has : Ty → Dat → Prop
  | .int, d => ∃ n, d = .i n ∧ -9223372036854775808 ≤ n ∧ n ≤ 9223372036854775807
  | .str, d => ∃ s, d = .s s ∧ s.size ≤ 9223372036854775807
  | .bool, d => ∃ b, d = .b b
  | .rcd ts, d => ∃ ds, d = .r ds ∧ HasAll ts ds
  | .sl t, d => ∃ ds, d = .l ds ∧ ds.length ≤ 9223372036854775807 ∧ ∀ x ∈ ds, Has t x
def HasAll : List Ty → List Dat → Prop
  | [], ds => ds = []
  | t :: ts, ds => ∃ d ds', ds = d :: ds' ∧ Has t d ∧ HasAll ts ds'
end
mutual
theorem Has.width : ∀ {t : Ty} {d : Dat}, Has t d → d.width = t.width
  | .int, _, h => by rw [Has] at h; obtain ⟨n, rfl, -⟩ := h; rfl
  | .str, _, h => by rw [Has] at h; obtain ⟨n, rfl, -⟩ := h; rfl
  | .bool, _, h => by rw [Has] at h; obtain ⟨n, rfl⟩ := h; rfl
  | .rcd ts, _, h => by rw [Has] at h; obtain ⟨ds, rfl, h⟩ := h; rw [Dat.width, Ty.width]; exact HasAll.width h
  | .sl _, _, h => by rw [Has] at h; obtain ⟨n, rfl, -⟩ := h; rfl
theorem HasAll.width : ∀ {ts : List Ty} {ds : List Dat}, HasAll ts ds → widthAll ds = tyWidthAll ts
  | [], _, h => by rw [HasAll] at h; subst h; rfl
  | t :: ts, _, h => by
    rw [HasAll] at h
    obtain ⟨d, ds', rfl, h1, h2⟩ := h
    rw [widthAll, tyWidthAll, Has.width h1, HasAll.width h2]
end
end Go.Proofs.Ytmeacgpebpfpbaa
namespace Go.Proofs.Ytmeacgpebpfpbaa
open Go.RowKit
structure Touch (S : Nat → Prop) (w w' : World) : Prop where
  os : w'.os = w.os
  tape : w'.tape = w.tape
  output : w'.output = w.output
  size : w.heap.size ≤ w'.heap.size
  block : ∀ k, k < w.heap.size → ¬ S k → w'.heap[k]? = w.heap[k]?
section
variable {S S' : Nat → Prop} {w w' w2 : World}
theorem Touch.refl (S : Nat → Prop) (w : World) : Touch S w w := ⟨rfl, rfl, rfl, Nat.le_refl _, fun _ _ _ => rfl⟩
theorem Touch.trans (h : Touch S w w') (k : Touch S w' w2) : Touch S w w2 :=
  ⟨k.os.trans h.os, k.tape.trans h.tape, k.output.trans h.output, Nat.le_trans h.size k.size, fun i hi hS => (k.block i (Nat.lt_of_lt_of_le hi h.size) hS).trans (h.block i hi hS)⟩
theorem Touch.mono (h : Touch S w w') (hs : ∀ b, S b → S' b) : Touch S' w w' := ⟨h.os, h.tape, h.output, h.size, fun k hk hn => h.block k hk (fun hS => hn (hs k hS))⟩
theorem Touch.of_below (h : Below w.heap.size w w') : Touch S w w' := ⟨h.os, h.tape, h.output, h.size, fun k hk _ => h.block k hk⟩
theorem Touch.setCell (h : Touch S w w') {p : Addr} (hp : S p.block) (u : Value) : Touch S w (w'.setCell p u) :=
  h.trans ⟨rfl, rfl, rfl, by simp [World.setCell], fun k _ hg => Below.heap_setCell _ _ _ _ (fun e => hg (by rw [e]; exact hp))⟩
theorem Touch.drew (h : Touch S w w') : Touch S w w'.drew := ⟨h.os, h.tape, h.output, h.size, h.block⟩
theorem Touch.alloc (h : Touch S w w') (o : Obj) : Touch S w (w'.alloc o) :=
  h.trans ⟨rfl, rfl, rfl, by simp, fun k hk _ => Below.heap_alloc _ _ _ hk⟩
theorem Touch.below {B : Nat} (h : Touch S w w') (hS : ∀ b, S b → B ≤ b) (hB : B ≤ w.heap.size) : Below B w w' :=
  ⟨h.os, h.tape, h.output, h.size, fun k hk => h.block k (by omega) (fun hs => by have := hS k hs; omega)⟩
end
mutual
def Owns (w : World) : Dat → List Value → (Nat → Prop) → Prop
  | .i n, cs, _ => cs = [.int .i64 n]
  | .s x, cs, _ => cs = [.string x]
  | .b x, cs, _ => cs = [.bool x]
  | .r ds, cs, B => OwnsAll w ds cs B
  | .l ds, cs, B => ∃ A n c, cs = [.slice A n c] ∧ ds.length = n ∧ (ds = [] ∨ ∃ (g : Nat) (E : TypeId) (cur : Array Value) (B' : Nat → Prop), A = some ⟨g, 0, none⟩ ∧ B g ∧ (∀ b, B' b → B b ∧ b ≠ g) ∧
      w.heap[g]? = some (.cells cur E (0, 0)) ∧ (widthAll ds ≤ cur.size ∧ n ≤ c) ∧ OwnsAll w ds (cur.toList.take (widthAll ds)) B')
def OwnsAll (w : World) : List Dat → List Value → (Nat → Prop) → Prop
  | [], cs, _ => cs = []
  | d :: ds, cs, B => ∃ (c1 c2 : List Value) (B1 B2 : Nat → Prop), cs = c1 ++ c2 ∧ (∀ b, B1 b → B b) ∧ (∀ b, B2 b → B b) ∧ (∀ b, B1 b → ¬ B2 b) ∧ Owns w d c1 B1 ∧ OwnsAll w ds c2 B2
end
section
variable {w w' : World} {B B' : Nat → Prop}
mutual
theorem Owns.mono (hB : ∀ b, B b → B' b) : ∀ {d : Dat} {cs : List Value}, Owns w d cs B → Owns w d cs B'
  | .i _, _, h => by rw [Owns] at h ⊢; exact h
  | .s _, _, h => by rw [Owns] at h ⊢; exact h
  | .b _, _, h => by rw [Owns] at h ⊢; exact h
  | .r ds, cs, h => by rw [Owns] at h ⊢; exact OwnsAll.mono hB h
  | .l ds, _, h => by
    rw [Owns] at h ⊢
    obtain ⟨A, n, c, rfl, hn, h⟩ := h
    refine ⟨A, n, c, rfl, hn, ?_⟩
    rcases h with h | ⟨g, E, cur, B1, e, hg, hs, hh, hw, ho⟩
    · exact Or.inl h
    · exact Or.inr ⟨g, E, cur, B1, e, hB g hg, fun b hb => ⟨hB b (hs b hb).1, (hs b hb).2⟩, hh, hw, ho⟩
theorem OwnsAll.mono (hB : ∀ b, B b → B' b) : ∀ {ds : List Dat} {cs : List Value}, OwnsAll w ds cs B → OwnsAll w ds cs B'
  | [], _, h => by rw [OwnsAll] at h ⊢; exact h
  | d :: ds, _, h => by
    rw [OwnsAll] at h ⊢
    obtain ⟨c1, c2, B1, B2, rfl, h1, h2, h3, h4, h5⟩ := h
    exact ⟨c1, c2, B1, B2, rfl, fun b hb => hB b (h1 b hb), fun b hb => hB b (h2 b hb), h3, h4, h5⟩
end
end
section
variable {w w' : World}
mutual
theorem Owns.same : ∀ {d : Dat} {cs : List Value} {B : Nat → Prop}, Owns w d cs B → (∀ b, B b → b < w.heap.size → w'.heap[b]? = w.heap[b]?) → Owns w' d cs B
  | .i _, _, _, h, _ => by rw [Owns] at h ⊢; exact h
  | .s _, _, _, h, _ => by rw [Owns] at h ⊢; exact h
  | .b _, _, _, h, _ => by rw [Owns] at h ⊢; exact h
  | .r ds, cs, _, h, hB => by rw [Owns] at h ⊢; exact OwnsAll.same h hB
  | .l ds, _, _, h, hB => by
    rw [Owns] at h ⊢
    obtain ⟨A, n, c, rfl, hn, h⟩ := h
    refine ⟨A, n, c, rfl, hn, ?_⟩
    rcases h with h | ⟨g, E, cur, B1, e, hg, hs, hh, hw, ho⟩
    · exact Or.inl h
    · exact Or.inr ⟨g, E, cur, B1, e, hg, hs, (hB g hg (Array.getElem?_eq_some_iff.1 hh).1).trans hh, hw, OwnsAll.same ho (fun b hb => hB b (hs b hb).1)⟩
theorem OwnsAll.same : ∀ {ds : List Dat} {cs : List Value} {B : Nat → Prop}, OwnsAll w ds cs B → (∀ b, B b → b < w.heap.size → w'.heap[b]? = w.heap[b]?) → OwnsAll w' ds cs B
  | [], _, _, h, _ => by rw [OwnsAll] at h ⊢; exact h
  | d :: ds, _, _, h, hB => by
    rw [OwnsAll] at h ⊢
    obtain ⟨c1, c2, B1, B2, rfl, h1, h2, h3, h4, h5⟩ := h
    exact ⟨c1, c2, B1, B2, rfl, h1, h2, h3, Owns.same h4 (fun b hb => hB b (h1 b hb)), OwnsAll.same h5 (fun b hb => hB b (h2 b hb))⟩
end
mutual
theorem Owns.lies : ∀ {d : Dat} {cs : List Value} {B : Nat → Prop}, Owns w d cs B → Lies w d cs
  | .i _, _, _, h => by rw [Owns] at h; rw [Lies]; exact h
  | .s _, _, _, h => by rw [Owns] at h; rw [Lies]; exact h
  | .b _, _, _, h => by rw [Owns] at h; rw [Lies]; exact h
  | .r ds, cs, _, h => by rw [Owns] at h; rw [Lies]; exact OwnsAll.lies h
  | .l ds, _, _, h => by
    rw [Owns] at h
    rw [Lies]
    obtain ⟨A, n, c, rfl, hn, h⟩ := h
    refine ⟨A, n, c, rfl, hn, ?_⟩
    rcases h with h | ⟨g, E, cur, B1, e, hg, hs, hh, hw, ho⟩
    · exact Or.inl h
    · refine Or.inr ⟨g, 0, _, e, ⟨(Array.getElem?_eq_some_iff.1 hh).1, hw.2⟩, OwnsAll.lies ho, fun j v hj => ?_⟩
      rw [Nat.zero_add, cell_of_row w g j cur E (0, 0) hh]
      rw [List.getElem?_take] at hj
      split at hj
      · simpa using hj
      · cases hj
theorem OwnsAll.lies : ∀ {ds : List Dat} {cs : List Value} {B : Nat → Prop}, OwnsAll w ds cs B → LiesAll w ds cs
  | [], _, _, h => by rw [OwnsAll] at h; rw [LiesAll]; exact h
  | d :: ds, _, _, h => by
    rw [OwnsAll] at h
    rw [LiesAll]
    obtain ⟨c1, c2, B1, B2, rfl, h1, h2, h3, h4, h5⟩ := h
    exact ⟨c1, c2, rfl, Owns.lies h4, OwnsAll.lies h5⟩
end
theorem Owns.touch {S : Nat → Prop} {d : Dat} {cs : List Value} {B : Nat → Prop} (h : Owns w d cs B) (ht : Touch S w w') (hd : ∀ b, B b → ¬ S b) : Owns w' d cs B := h.same fun b hb hlt => ht.block b hlt (hd b hb)
theorem Owns.below {d : Dat} {cs : List Value} {B : Nat → Prop} (h : Owns w d cs B) (hb : Below w.heap.size w w') : Owns w' d cs B := h.same fun b _ hlt => hb.block b hlt
end
theorem OwnsAll.focus {w : World} {k : Nat} : ∀ {ds : List Dat} {cs : List Value} {B : Nat → Prop} {i : Nat}, OwnsAll w ds cs B → (∀ x ∈ ds, x.width = k) → (hi : i < ds.length) →
    ∃ (d : Dat) (xs : List Value) (Bi Br : Nat → Prop), ds[i]? = some d ∧ Owns w d xs Bi ∧ xs.length = k ∧ (∀ b, Bi b → B b) ∧ (∀ b, Br b → B b) ∧ (∀ b, Bi b → ¬ Br b) ∧ (∀ (j : Nat) (v : Value), xs[j]? = some v → cs[i * k + j]? = some v) ∧
      ∀ (w' : World) (d' : Dat) (xs' : List Value) (Bi' : Nat → Prop), xs'.length = k → Owns w' d' xs' Bi' → (∀ b, Bi' b → ¬ Br b) → (∀ b, Br b → b < w.heap.size → w'.heap[b]? = w.heap[b]?) →
        OwnsAll w' (ds.set i d') (cs.take (i * k) ++ xs' ++ cs.drop (i * k + k)) (fun b => Br b ∨ Bi' b)
  | [], _, _, _, _, _, hi => by simp at hi
  | d :: ds, cs, B, 0, h, hk, _ => by
    rw [OwnsAll] at h
    obtain ⟨c1, c2, B1, B2, rfl, h1, h2, h3, h4, h5⟩ := h
    have e1 : c1.length = k := by rw [h4.lies.len]; exact hk _ (by simp)
    refine ⟨d, c1, B1, B2, rfl, h4, e1, h1, h2, h3, fun j v hj => ?_, fun w' d' xs' Bi' hx ho hdis hsame => ?_⟩
    · rw [Nat.zero_mul, Nat.zero_add, List.getElem?_append_left (List.getElem?_eq_some_iff.1 hj).1]
      exact hj
    · rw [List.set_cons_zero, OwnsAll]
      refine ⟨xs', c2, Bi', B2, ?_, fun b hb => Or.inr hb, fun b hb => Or.inl hb, hdis, ho, h5.same (fun b hb hlt => hsame b hb hlt)⟩
      simp [e1]
  | d :: ds, cs, B, i + 1, h, hk, hi => by
    rw [OwnsAll] at h
    obtain ⟨c1, c2, B1, B2, rfl, h1, h2, h3, h4, h5⟩ := h
    have e1 : c1.length = k := by rw [h4.lies.len]; exact hk _ (by simp)
    obtain ⟨x, xs, Bi, Br, g1, g2, g3, g4, g5, g6, g7, g8⟩ := OwnsAll.focus (i := i) h5 (fun y hy => hk y (List.mem_cons_of_mem _ hy)) (by simpa using hi)
    refine ⟨x, xs, Bi, (fun b => B1 b ∨ Br b), by simpa using g1, g2, g3, fun b hb => h2 b (g4 b hb), fun b hb => ?_, fun b hb hr => ?_, fun j v hj => ?_, fun w' d' xs' Bi' hx ho hdis hsame => ?_⟩
    · rcases hb with hb | hb
      · exact h1 b hb
      · exact h2 b (g5 b hb)
    · rcases hr with hr | hr
      · exact h3 b hr (g4 b hb)
      · exact g6 b hb hr
    · rw [List.getElem?_append_right (by rw [e1, Nat.add_mul]; omega), e1, show (i + 1) * k + j - k = i * k + j by rw [Nat.add_mul]; omega]
      exact g7 j v hj
    · have hr := g8 w' d' xs' Bi' hx ho (fun b hb hr => hdis b hb (Or.inr hr)) (fun b hb hlt => hsame b (Or.inr hb) hlt)
      rw [List.set_cons_succ, OwnsAll]
      refine ⟨c1, _, B1, _, ?_, fun b hb => Or.inl (Or.inl hb), fun b hb => ?_, fun b hb hr => ?_, h4.same (fun b hb hlt => hsame b (Or.inl hb) hlt), hr⟩
      · have e2 : (i + 1) * k = c1.length + i * k := by rw [e1, Nat.add_mul]; omega
        rw [e2, List.take_length_add_append, show c1.length + i * k + k = c1.length + (i * k + k) by omega, List.drop_length_add_append]
        simp
      · rcases hb with hb | hb
        · exact Or.inl (Or.inr hb)
        · exact Or.inr hb
      · rcases hr with hr | hr
        · exact h3 b hb (g5 b hr)
        · exact hdis b hr (Or.inl hb)
theorem widthAll_of {k : Nat} : ∀ {ds : List Dat}, (∀ x ∈ ds, x.width = k) → widthAll ds = ds.length * k
  | [], _ => by simp [widthAll]
  | d :: ds, h => by rw [widthAll, h d (by simp), widthAll_of (fun x hx => h x (List.mem_cons_of_mem _ hx)), List.length_cons, Nat.add_mul]; omega
theorem width_set {k : Nat} {ds : List Dat} {i : Nat} {d : Dat} (h : ∀ x ∈ ds, x.width = k) (hd : d.width = k) : ∀ x ∈ ds.set i d, x.width = k := fun x hx => by
  rcases List.mem_or_eq_of_mem_set hx with hx | rfl
  · exact h x hx
  · exact hd
theorem Owns.focus {w : World} {k : Nat} {ds : List Dat} {A : Option Addr} {n c i : Nat} {B : Nat → Prop} (h : Owns w (.l ds) [.slice A n c] B) (hk : ∀ x ∈ ds, x.width = k) (hi : i < n) :
    ∃ (g : Nat) (E : TypeId) (cur : Array Value) (d : Dat) (xs : List Value) (Bi Br : Nat → Prop), A = some ⟨g, 0, none⟩ ∧ B g ∧ w.heap[g]? = some (.cells cur E (0, 0)) ∧ ds[i]? = some d ∧ Owns w d xs Bi ∧ xs.length = k ∧
      (∀ b, Bi b → B b ∧ b ≠ g ∧ ¬ Br b) ∧ (∀ b, Br b → B b ∧ b ≠ g) ∧ (∀ (j : Nat) (v : Value), xs[j]? = some v → w.cell? ⟨g, i * k + j, none⟩ = some v) ∧ (∀ j, w.frozen? ⟨g, j, none⟩ = false) ∧ i * k + k ≤ cur.size ∧
      ∀ (w' : World) (d' : Dat) (xs' : List Value) (Bi' : Nat → Prop) (cur' : Array Value), d'.width = k → Owns w' d' xs' Bi' → (∀ b, Bi' b → b ≠ g ∧ ¬ Br b) → w'.heap[g]? = some (.cells cur' E (0, 0)) → cur'.toList = setRange cur.toList (i * k) xs' →
        (∀ b, Br b → b < w.heap.size → w'.heap[b]? = w.heap[b]?) → Owns w' (.l (ds.set i d')) [.slice A n c] (fun b => b = g ∨ Br b ∨ Bi' b) := by
  rw [Owns] at h
  obtain ⟨A', n', c', e, hn, h⟩ := h
  simp only [List.cons.injEq, Value.slice.injEq, and_true] at e
  obtain ⟨rfl, rfl, rfl⟩ := e
  rcases h with rfl | ⟨g, E, cur, B1, rfl, hg, hs, hh, ⟨hw, hnc⟩, ho⟩
  · simp at hn; omega
  · have hW := widthAll_of hk
    have hik : i * k + k ≤ ds.length * k := by
      have : (i + 1) * k ≤ ds.length * k := Nat.mul_le_mul_right _ (by omega)
      rw [Nat.add_mul] at this
      omega
    obtain ⟨d, xs, Bi, Br, h1, h2, h3, h4, h5, h6, h7, h8⟩ := ho.focus hk (i := i) (by omega)
    refine ⟨g, E, cur, d, xs, Bi, Br, rfl, hg, hh, h1, h2, h3, fun b hb => ⟨(hs b (h4 b hb)).1, (hs b (h4 b hb)).2, h6 b hb⟩, fun b hb => hs b (h5 b hb), fun j v hj => ?_, fun j => ?_, by omega, ?_⟩
    · rw [cell_of_row w g (i * k + j) cur E (0, 0) hh]
      have := h7 j v hj
      rw [List.getElem?_take] at this
      split at this
      · simpa using this
      · cases this
    · simp [World.frozen?, hh]
    · intro w' d' xs' Bi' cur' hd' ho' hdis hh' hcur hsame
      have hx' : xs'.length = k := by rw [ho'.lies.len]; exact hd'
      have hr := h8 w' d' xs' Bi' hx' ho' (fun b hb => (hdis b hb).2) hsame
      have hW' : widthAll (ds.set i d') = widthAll ds := by rw [widthAll_of (width_set hk hd'), List.length_set, hW]
      have hsz : cur'.size = cur.size := by
        have := congrArg List.length hcur
        rw [setRange_len] at this
        simpa using this
      rw [Owns]
      refine ⟨_, _, _, rfl, by rw [List.length_set]; exact hn, Or.inr ⟨g, E, cur', (fun b => Br b ∨ Bi' b), rfl, Or.inl rfl, fun b hb => ?_, hh', ⟨by rw [hW', hsz]; exact hw, hnc⟩, ?_⟩⟩
      · rcases hb with hb | hb
        · exact ⟨Or.inr (Or.inl hb), (hs b (h5 b hb)).2⟩
        · exact ⟨Or.inr (Or.inr hb), (hdis b hb).1⟩
      · rw [hW', hcur]
        have e : (setRange cur.toList (i * k) xs').take (widthAll ds) = (cur.toList.take (widthAll ds)).take (i * k) ++ xs' ++ (cur.toList.take (widthAll ds)).drop (i * k + k) := by
          have hlen : i * k + xs'.length ≤ cur.toList.length := by rw [hx']; simp; omega
          apply List.ext_getElem?
          intro j
          rw [List.getElem?_take, setRange_at _ _ _ _ hlen, hx']
          by_cases hj1 : j < i * k
          · rw [if_pos (by omega), if_neg (by omega), List.append_assoc, List.getElem?_append_left (by simp; omega), List.getElem?_take, if_pos hj1, List.getElem?_take, if_pos (by omega)]
          · have hl1 : ((cur.toList.take (widthAll ds)).take (i * k)).length = i * k := by simp; omega
            by_cases hj2 : j < i * k + k
            · rw [if_pos (by omega), if_pos (by omega), List.append_assoc, List.getElem?_append_right (by omega), hl1, List.getElem?_append_left (by omega)]
            · rw [List.getElem?_append_right (by rw [List.length_append, hl1, hx']; omega), List.length_append, hl1, hx', List.getElem?_drop, List.getElem?_take, show i * k + k + (j - (i * k + k)) = j by omega]
              split
              · rw [if_neg (by omega)]
              · rfl
        rw [e]
        exact hr
theorem putCells_heap : ∀ (vs : List Value) (w : World) (g o : Nat) (cur : Array Value) (E : TypeId), w.heap[g]? = some (.cells cur E (0, 0)) → ∃ cur', (putCells w g o vs).heap[g]? = some (.cells cur' E (0, 0)) ∧ cur'.toList = setRange cur.toList o vs
  | [], w, g, o, cur, E, h => ⟨cur, h, rfl⟩
  | v :: vs, w, g, o, cur, E, h => by
    obtain ⟨cur', h1, h2⟩ := putCells_heap vs (w.setCell ⟨g, o, none⟩ v) g (o + 1) (cur.setIfInBounds o v) E (by
      have hlt := (Array.getElem?_eq_some_iff.1 h).1
      have h' : w.heap[g] = .cells cur E (0, 0) := by simpa [Array.getElem?_eq_getElem hlt] using h
      show (w.heap.modify g _)[g]? = _
      rw [Array.getElem?_eq_getElem (by simpa using hlt), Array.getElem_modify_self, h']
      rfl)
    exact ⟨cur', h1, by rw [h2, Array.toList_setIfInBounds, setRange]⟩
theorem putCells_touch : ∀ (vs : List Value) (w : World) (g o : Nat), Touch (fun b => b = g) w (putCells w g o vs)
  | [], w, _, _ => Touch.refl _ w
  | v :: vs, w, g, o => ((Touch.refl (fun b => b = g) w).setCell (p := ⟨g, o, none⟩) rfl v).trans (putCells_touch vs _ g (o + 1))
theorem Owns.put {w w1 : World} {k : Nat} {ds : List Dat} {g n c i : Nat} {B S Bi' : Nat → Prop} {d' : Dat} {xs' : List Value} (h : Owns w (.l ds) [.slice (some ⟨g, 0, none⟩) n c] B) (hk : ∀ x ∈ ds, x.width = k) (hi : i < n)
    (ht : Touch S w w1) (hS : ∀ b, S b → ¬ B b) (hd : d'.width = k) (ho : Owns w1 d' xs' Bi') (hdis : ∀ b, Bi' b → ¬ B b) : Owns (putCells w1 g (i * k) xs') (.l (ds.set i d')) [.slice (some ⟨g, 0, none⟩) n c] (fun b => B b ∨ Bi' b) := by
  obtain ⟨g', E, cur, d, xs, Bi, Br, e, hg, hh, h1, h2, h3, h4, h5, h6, h7, h8, hput⟩ := h.focus hk hi
  obtain rfl : g = g' := by injection e with e; injection e
  have hlt := (Array.getElem?_eq_some_iff.1 hh).1
  have hh1 : w1.heap[g]? = some (.cells cur E (0, 0)) := (ht.block g hlt (fun hs => hS g hs hg)).trans hh
  obtain ⟨cur', hc1, hc2⟩ := putCells_heap xs' w1 g (i * k) cur E hh1
  have htp := putCells_touch xs' w1 g (i * k)
  refine (hput (putCells w1 g (i * k) xs') d' xs' Bi' cur' hd (ho.touch htp (fun b hb e => hdis b hb (by rw [e]; exact hg))) (fun b hb => ⟨fun e => hdis b hb (by rw [e]; exact hg), fun hr => hdis b hb (h5 b hr).1⟩) hc1 hc2 (fun b hb hlt => ?_)).mono (fun b hb => ?_)
  · rw [htp.block b (Nat.lt_of_lt_of_le hlt ht.size) (fun e => (h5 b hb).2 e)]
    exact ht.block b hlt (fun hs => hS b hs (h5 b hb).1)
  · rcases hb with rfl | hb | hb
    · exact Or.inl hg
    · exact Or.inl (h5 b hb).1
    · exact Or.inr hb
end Go.Proofs.Ytmeacgpebpfpbaa
namespace Go.Proofs.Ytmeacgpebpfpbaa
open Go.RowKit
theorem flatten_at {α : Type} (xs : List α) : ∀ (n j : Nat), (List.replicate n xs).flatten[j]? = if j < n * xs.length then xs[j % xs.length]? else none
  | 0, j => by simp
  | n + 1, j => by
    rw [List.replicate_succ, List.flatten_cons]
    by_cases h : j < xs.length
    · rw [List.getElem?_append_left h, Nat.mod_eq_of_lt h, if_pos (by rw [Nat.add_mul]; omega)]
    · rw [List.getElem?_append_right (by omega), flatten_at xs n]
      have e : j % xs.length = (j - xs.length) % xs.length := by rw [Nat.mod_eq_sub_mod (by omega)]
      rw [e]
      by_cases h2 : j - xs.length < n * xs.length
      · rw [if_pos h2, if_pos (by rw [Nat.add_mul]; omega)]
      · rw [if_neg h2, if_neg (by rw [Nat.add_mul]; omega)]
theorem flat_made (z : Array Value) (n : Nat) : (madeCells z (n * z.size)).toList = (List.replicate n z.toList).flatten := by
  apply List.ext_getElem?
  intro j
  rw [flatten_at]
  by_cases hj : j < n * z.size
  · rw [if_pos (by simpa using hj)]
    have hz : 0 < z.size := by
      rcases Nat.eq_zero_or_pos z.size with h | h
      · rw [h] at hj; simp at hj
      · exact h
    have hm : j % z.size < z.size := Nat.mod_lt _ hz
    have hj2 : j < (madeCells z (n * z.size)).size := by rw [size_madeCells]; exact hj
    rw [Array.getElem?_toList, Array.getElem?_eq_getElem hj2]
    simp only [madeCells, Array.getElem_map, Array.getElem_range, Array.length_toList, Array.getElem?_toList]
    rw [Array.getElem?_eq_getElem hm, getElem!_pos z _ hm]
  · rw [if_neg (by simpa using hj), List.getElem?_eq_none (by rw [Array.length_toList, size_madeCells]; omega)]
theorem OwnsAll.zeros {w : World} {z : Dat} {zc : List Value} {B : Nat → Prop} (h : Owns w z zc (fun _ => False)) : ∀ n, OwnsAll w (List.replicate n z) (List.replicate n zc).flatten B
  | 0 => by rw [List.replicate_zero, List.replicate_zero, OwnsAll]; rfl
  | n + 1 => by
    rw [List.replicate_succ, List.replicate_succ, List.flatten_cons, OwnsAll]
    exact ⟨zc, _, (fun _ => False), B, rfl, fun b hb => hb.elim, fun b hb => hb, fun b hb => hb.elim, h, OwnsAll.zeros h n⟩
theorem Owns.made {w : World} {base : Nat} {E : TypeId} {n g : Nat} {z : Dat} {zc : Array Value} (hz : ∀ w, Owns w z zc.toList (fun _ => False)) (h : w.ownsRow base E zc.size (.slice (some ⟨g, 0, none⟩) n n) n (madeCells zc (n * zc.size)).toList) :
    Owns w (.l (List.replicate n z)) [.slice (some ⟨g, 0, none⟩) n n] (fun b => b = g) := by
  rcases h.2 with ⟨e, -⟩ | ⟨g', cap, cur, e, hb, hh, h1, h2, h3, h4⟩
  · cases e
  · simp only [Value.slice.injEq, Option.some.injEq, Addr.mk.injEq, and_true, true_and] at e
    obtain ⟨rfl, rfl⟩ := e
    have hw : z.width = zc.size := by rw [← (hz w).lies.len]; simp
    have hW : widthAll (List.replicate n z) = n * zc.size := by rw [widthAll_of (k := zc.size) (fun x hx => by rw [(List.mem_replicate.1 hx).2]; exact hw), List.length_replicate]
    rw [Owns]
    refine ⟨_, _, _, rfl, by simp, Or.inr ⟨g, E, cur, (fun _ => False), rfl, rfl, fun b hb => hb.elim, hh, ⟨by rw [hW, h3]; exact Nat.le_refl _, Nat.le_refl _⟩, ?_⟩⟩
    rw [hW, h4, flat_made]
    exact OwnsAll.zeros (hz w) n
def UptoD (w : World) (k : Nat) (L : List Dat) (g n i : Nat) (wr : World) : Prop :=
  ∃ (ds : List Dat) (B : Nat → Prop), Owns wr (.l ds) [.slice (some ⟨g, 0, none⟩) n n] B ∧ ds.length = n ∧ (∀ j, j < i → ds[j]? = L[j]?) ∧ (∀ x ∈ ds, x.width = k) ∧ (∀ b, B b → w.heap.size ≤ b ∧ b < wr.heap.size) ∧ Below w.heap.size w wr
theorem UptoD.start {w w1 : World} {k g n : Nat} {L : List Dat} {z : Dat} {zc : Array Value} {base : Nat} {E : TypeId} (hz : ∀ w, Owns w z zc.toList (fun _ => False)) (hk : zc.size = k)
    (h : w1.ownsRow base E zc.size (.slice (some ⟨g, 0, none⟩) n n) n (madeCells zc (n * zc.size)).toList) (hg : w.heap.size ≤ g) (hb : Below w.heap.size w w1) : UptoD w k L g n 0 w1 := by
  have hg2 : g < w1.heap.size := by
    rcases h.2 with ⟨e, -⟩ | ⟨g', cap, cur, e, hb, hh, h1, h2, h3, h4⟩
    · cases e
    · simp only [Value.slice.injEq, Option.some.injEq, Addr.mk.injEq, and_true, true_and] at e
      obtain ⟨rfl, rfl⟩ := e
      exact (Array.getElem?_eq_some_iff.1 hh).1
  refine ⟨_, _, Owns.made hz h, by simp, fun j hj => by omega, fun x hx => ?_, fun b hb => by subst hb; exact ⟨hg, hg2⟩, hb⟩
  rw [(List.mem_replicate.1 hx).2, ← (hz w).lies.len]
  simpa using hk
theorem UptoD.slot {w wr w2 : World} {k g n i : Nat} {L : List Dat} (h : UptoD w k L g n i wr) (hi : i < n) (hb : Below wr.heap.size wr w2) :
    (∀ j, j < k → ∃ u, w2.cell? ⟨g, i * k + j, none⟩ = some u) ∧ ∀ j, w2.frozen? ⟨g, j, none⟩ = false := by
  obtain ⟨ds, B, hO, hn, -, hk, -, -⟩ := h
  obtain ⟨g', E, cur, d, xs, Bi, Br, e, -, -, -, -, h3, -, -, h6, h7, -⟩ := (hO.below hb).focus hk hi
  obtain rfl : g = g' := by injection e with e; injection e
  exact ⟨fun j hj => ⟨xs[j]'(by omega), h6 j _ (List.getElem?_eq_getElem (by omega))⟩, h7⟩
theorem UptoD.next {w wr w2 : World} {k g n i : Nat} {L : List Dat} {d : Dat} {xs : List Value} {B' : Nat → Prop} (h : UptoD w k L g n i wr) (hi : i < n) (hd : L[i]? = some d) (hw : d.width = k) (ho : Owns w2 d xs B') (hB' : ∀ b, B' b → wr.heap.size ≤ b ∧ b < w2.heap.size) (hb : Below wr.heap.size wr w2) :
    UptoD w k L g n (i + 1) (putCells w2 g (i * k) xs) := by
  obtain ⟨ds, B, hO, hn, hL, hk, hB, hbl⟩ := h
  have hg : B g := by
    obtain ⟨g', E, cur, d, xs, Bi, Br, e, hg, -⟩ := hO.focus hk hi
    obtain rfl : g = g' := by injection e with e; injection e
    exact hg
  have hp := hO.put (S := fun _ => False) hk hi (Touch.of_below hb) (fun b hb => hb.elim) hw ho (fun b hb hB1 => by have := hB b hB1; have := hB' b hb; omega)
  have ht := putCells_touch xs w2 g (i * k)
  refine ⟨_, _, hp, by rw [List.length_set]; exact hn, fun j hj => ?_, width_set hk hw, fun b hb2 => ?_, ?_⟩
  · rw [List.getElem?_set]
    by_cases e : i = j
    · subst e; rw [if_pos rfl, if_pos (by omega), hd]
    · rw [if_neg e]; exact hL j (by omega)
  · have := ht.size
    have := hb.size
    rcases hb2 with hb2 | hb2
    · have := hB b hb2; omega
    · have := hB' b hb2; have := hbl.size; omega
  · exact (hbl.trans (hb.mono hbl.size)).trans (ht.below (fun b e => by subst e; exact (hB _ hg).1) (Nat.le_trans hbl.size hb.size))
def FreshD (L : List Dat) (w : World) (e : Ending) (w' : World) : Prop := ∃ A n c, e = .returned (.slice A n c) ∧ Owns w' (.l L) [.slice A n c] (fun b => w.heap.size ≤ b ∧ b < w'.heap.size) ∧ Below w.heap.size w w'
theorem UptoD.ret {w wr : World} {k g n : Nat} {L : List Dat} (h : UptoD w k L g n n wr) (hn : L.length = n) : FreshD L w (.returned (.slice (some ⟨g, 0, none⟩) n n)) wr := by
  obtain ⟨ds, B, hO, h1, h2, -, h4, h5⟩ := h
  have e : ds = L := by
    apply List.ext_getElem?
    intro j
    by_cases hj : j < n
    · exact h2 j hj
    · rw [List.getElem?_eq_none (by omega), List.getElem?_eq_none (by omega)]
  subst e
  exact ⟨_, _, _, rfl, hO.mono h4, h5⟩
end Go.Proofs.Ytmeacgpebpfpbaa
namespace Go.Proofs.Ytmeacgpebpfpbaa
open Go.RowKit Go.Joins Go.ChangeShapes Go.WideShapes Go.Deep
mutual
def tiedB (P : Program) : Ty → TypeId → Bool
  | .int, T => match P.underlying T with
    | some (.int .i64) => true
    | _ => false
  | .str, T => match P.underlying T with
    | some .string => true
    | _ => false
  | .bool, T => match P.underlying T with
    | some .bool => true
    | _ => false
  | .rcd ts, T => match P.underlying T with
    | some (.struct fs) => tiedAll P ts fs.toList 0 && P.cellsOf T == tyWidthAll ts
    | _ => false
  | .sl t, T => match P.underlying T with
    | some (.slice E) => tiedB P t E && P.cellsOf E == t.width && decide (0 < t.width)
    | _ => false
def tiedAll (P : Program) : List Ty → List Field → Nat → Bool
  | [], [], _ => true
  | t :: ts, f :: fs, o => tiedB P t f.type && f.offset == o && P.cellsOf f.type == t.width && tiedAll P ts fs (o + t.width)
  | _, _, _ => false
end
section
variable {H : Type} {enc : TypeId × Value → H} {P : Program} {W : World} {spare : Nat → Bool} {held : Bool}
theorem wf64 {a : Int} (h : (Lit.int .i64 a).wf = true) : -9223372036854775808 ≤ a ∧ a ≤ 9223372036854775807 := by
  have e1 : IntKind.i64.min = -9223372036854775808 := rfl
  have e2 : IntKind.i64.max = 9223372036854775807 := rfl
  simp [Lit.wf, e1, e2] at h
  omega
mutual
theorem open_dat : ∀ (t : Ty) (T : TypeId) (n : Nat) (cs : List Value) (y : DataW H × List MemPlace), tiedB P t T = true → DataW.trod enc P W 0 spare held n T cs = some y → (∀ x ∈ y.2, x.block < W.heap.size) → ∃ d, Has t d ∧ Lies W d cs
  | .int, T, n, cs, y, ht, h, _ => by
    have hu : P.underlying T = some (.int .i64) := by unfold tiedB at ht; split at ht <;> simp_all
    obtain ⟨a, e0, rfl, wa⟩ := DataW.trod_int hu h
    subst e0
    exact ⟨.i a, ⟨a, rfl, wf64 wa⟩, rfl⟩
  | .str, T, n, cs, y, ht, h, _ => by
    have hu : P.underlying T = some .string := by unfold tiedB at ht; split at ht <;> simp_all
    obtain ⟨s, e0, rfl, hs⟩ := DataW.trod_string hu h
    subst e0
    exact ⟨.s s, ⟨s, rfl, by unfold maxLen at hs; omega⟩, rfl⟩
  | .bool, T, n, cs, y, ht, h, _ => by
    have hu : P.underlying T = some .bool := by unfold tiedB at ht; split at ht <;> simp_all
    obtain ⟨b, e0, rfl⟩ := DataW.trod_bool hu h
    subst e0
    exact ⟨.b b, ⟨b, rfl⟩, rfl⟩
  | .rcd ts, T, n, cs, y, ht, h, hlt => by
    obtain ⟨fs, hu, htt, hcc⟩ : ∃ fs, P.underlying T = some (.struct fs) ∧ tiedAll P ts fs.toList 0 = true ∧ P.cellsOf T = tyWidthAll ts := by
      unfold tiedB at ht
      split at ht
      · rename_i fs hu; simp only [Bool.and_eq_true, beq_iff_eq] at ht; exact ⟨fs, hu, ht⟩
      · cases ht
    obtain ⟨xs, m, -, hy, hcl, hlen, hf⟩ := DataW.trod_struct hu h
    subst hy
    obtain ⟨ds, h1, h2⟩ := open_all ts fs.toList 0 m cs xs htt (by simpa using hlen) (fun i f hi => hf i f (by simpa using hi)) (fun x hx => hlt x hx) (by omega)
    exact ⟨.r ds, ⟨ds, rfl, h1⟩, h2⟩
  | .sl t, T, n, cs, y, ht, h, hlt => by
    obtain ⟨E, hu, hE, hC, hp⟩ : ∃ E, P.underlying T = some (.slice E) ∧ tiedB P t E = true ∧ P.cellsOf E = t.width ∧ 0 < t.width := by
      unfold tiedB at ht
      split at ht
      · rename_i E hu; simp at ht; exact ⟨E, hu, ht.1.1, ht.1.2, ht.2⟩
      · cases ht
    rcases open_slice hu h with ⟨rfl, -⟩ | ⟨a, len, cap, m, n', D, Pl, rfl, hb, hl, hm, hmm, hx, hi⟩
    · exact ⟨.l [], ⟨[], rfl, by simp, fun x hx => by cases hx⟩, none, 0, 0, rfl, rfl, Or.inl rfl⟩
    · have hlm : len ≤ m := by rw [hmm]; split <;> omega
      have key : ∀ k, k ≤ m → ∃ ds xs, ds.length = k ∧ (∀ x ∈ ds, Has t x) ∧ LiesAll W ds xs ∧ xs.length = k * t.width ∧ ∀ (j : Nat) (v : Value), xs[j]? = some v → W.cell? (a.add j) = some v := by
        intro k
        induction k with
        | zero => exact fun _ => ⟨[], [], rfl, (fun x hx => by cases hx), rfl, (by simp), (fun j v h => by simp at h)⟩
        | succ k ih =>
          intro hk
          obtain ⟨ds, xs, h1, h2, h3, h4, h5⟩ := ih (by omega)
          obtain ⟨cs', hc, ht'⟩ := hi k (by omega)
          rw [hC] at hc
          obtain ⟨_, hcl, hat⟩ := World.cells?_some hc
          obtain ⟨d, hd, hL⟩ := open_dat t E n' cs' (D k, Pl k) hE ht' (fun z hz => hlt z (by
            have e := congrArg Prod.snd hx
            simp only at e
            rw [e]
            exact List.mem_append_right _ (List.mem_flatMap.2 ⟨k, List.mem_range.2 (by omega), hz⟩)))
          refine ⟨ds ++ [d], xs ++ cs', by simp [h1], fun x hx => ?_, h3.snoc hL, by simp [h4, hcl, Nat.add_mul], fun j v hj => ?_⟩
          · rcases List.mem_append.1 hx with hx | hx
            · exact h2 x hx
            · rw [List.mem_singleton.1 hx]; exact hd
          · by_cases hjl : j < xs.length
            · rw [List.getElem?_append_left hjl] at hj
              exact h5 j v hj
            · rw [List.getElem?_append_right (by omega)] at hj
              have hlt' := (List.getElem?_eq_some_iff.1 hj).1
              have h6 := hat (j - xs.length) (by omega)
              rw [hj, add_add] at h6
              rw [← h6, show k * t.width + (j - xs.length) = j by omega]
      obtain ⟨ds, xs, h1, h2, h3, h4, h5⟩ := key len hlm
      refine ⟨.l ds, ⟨ds, rfl, by unfold maxLen at hm; omega, h2⟩, some a, len, cap, rfl, h1, ?_⟩
      by_cases hz : len = 0
      · exact Or.inl (List.eq_nil_of_length_eq_zero (by omega))
      · right
        have h0 : 0 < xs.length := by rw [h4]; exact Nat.mul_pos (by omega) hp
        have hc0 := h5 0 _ (List.getElem?_eq_getElem h0)
        have hsp : a.spot = none := by simpa [Addr.add] using World.cell?_spot hc0
        obtain ⟨b, off, spot⟩ := a
        simp only at hsp
        subst hsp
        refine ⟨b, off, xs, rfl, ⟨?_, hl⟩, h3, fun j v hj => ?_⟩
        · exact hlt (.cell b off) (by
            have e := congrArg Prod.snd hx
            simp only at e
            rw [e, hC]
            exact List.mem_append_left _ (MemPlace.mem_row.2 ⟨0, Nat.mul_pos (by omega) hp, by simp⟩))
        · have := h5 j v hj
          rw [Addr.add_lit] at this
          exact this
theorem open_all : ∀ (ts : List Ty) (fs : List Field) (o m : Nat) (cs : List Value) (xs : List (DataW H × List MemPlace)), tiedAll P ts fs o = true → xs.length = fs.length →
    (∀ (i : Nat) (f : Field), fs[i]? = some f → DataW.trod enc P W 0 spare held m f.type ((cs.drop f.offset).take (P.cellsOf f.type)) = xs[i]?) → (∀ x ∈ xs.flatMap (·.2), x.block < W.heap.size) → cs.length = o + tyWidthAll ts →
    ∃ ds, HasAll ts ds ∧ LiesAll W ds (cs.drop o)
  | [], [], o, m, cs, xs, _, _, _, _, hl => ⟨[], rfl, by rw [LiesAll]; exact List.drop_of_length_le (by simp [tyWidthAll] at hl; omega)⟩
  | [], _ :: _, o, m, cs, xs, ht, _, _, _, _ => by simp [tiedAll] at ht
  | _ :: _, [], o, m, cs, xs, ht, _, _, _, _ => by simp [tiedAll] at ht
  | t :: ts, f :: fs, o, m, cs, x :: xs, ht, hlen, hf, hlt, hl => by
    simp only [tiedAll, Bool.and_eq_true, beq_iff_eq] at ht
    obtain ⟨⟨⟨h1, h2⟩, h3⟩, h4⟩ := ht
    have h0 := hf 0 f rfl
    rw [h2, h3] at h0
    obtain ⟨d, hd, hL⟩ := open_dat t f.type m _ x h1 h0 (fun z hz => hlt z (by simp [hz]))
    obtain ⟨ds, hds, hLs⟩ := open_all ts fs (o + t.width) m cs xs h4 (by simpa using hlen) (fun i g hi => by have := hf (i + 1) g (by simpa using hi); simpa using this) (fun z hz => hlt z (by simp at hz ⊢; exact Or.inr hz)) (by simp [tyWidthAll] at hl; omega)
    refine ⟨d :: ds, ⟨d, ds, rfl, hd, hds⟩, ?_⟩
    rw [LiesAll]
    exact ⟨_, _, by rw [← List.drop_drop]; exact (List.take_append_drop t.width (cs.drop o)).symm, hL, hLs⟩
  | t :: ts, f :: fs, o, m, cs, [], ht, hlen, _, _, _ => by simp at hlen
end
end
end Go.Proofs.Ytmeacgpebpfpbaa
namespace Go.Proofs.Ytmeacgpebpfpbaa
open Go.RowKit
theorem OwnsAll.append {w : World} : ∀ {L L2 : List Dat} {xs ys : List Value} {B B2 : Nat → Prop}, OwnsAll w L xs B → OwnsAll w L2 ys B2 → (∀ b, B b → ¬ B2 b) → OwnsAll w (L ++ L2) (xs ++ ys) (fun b => B b ∨ B2 b)
  | [], L2, xs, ys, B, B2, h, h2, _ => by
    rw [OwnsAll] at h
    subst h
    exact h2.mono (fun b hb => Or.inr hb)
  | d :: L, L2, xs, ys, B, B2, h, h2, hd => by
    rw [OwnsAll] at h
    obtain ⟨c1, c2, B1, Br, rfl, g1, g2, g3, g4, g5⟩ := h
    rw [List.cons_append, OwnsAll]
    refine ⟨c1, c2 ++ ys, B1, (fun b => Br b ∨ B2 b), List.append_assoc _ _ _, fun b hb => Or.inl (g1 b hb), fun b hb => ?_, fun b hb hr => ?_, g4, OwnsAll.append g5 h2 (fun b hb => hd b (g2 b hb))⟩
    · rcases hb with hb | hb
      · exact Or.inl (g2 b hb)
      · exact Or.inr hb
    · rcases hr with hr | hr
      · exact g3 b hb hr
      · exact hd b (g1 b hb) hr
mutual
theorem Owns.one : ∀ {w : World} {d : Dat} {cs : List Value} {B : Nat → Prop}, Owns w d cs B → ∀ u ∈ cs, u.oneCell' = true
  | _, .i _, _, _, h, u, hu => by rw [Owns] at h; subst h; rw [List.mem_singleton.1 hu]; rfl
  | _, .s _, _, _, h, u, hu => by rw [Owns] at h; subst h; rw [List.mem_singleton.1 hu]; rfl
  | _, .b _, _, _, h, u, hu => by rw [Owns] at h; subst h; rw [List.mem_singleton.1 hu]; rfl
  | _, .r ds, _, _, h, u, hu => by rw [Owns] at h; exact OwnsAll.one h u hu
  | _, .l ds, _, _, h, u, hu => by rw [Owns] at h; obtain ⟨A, n, c, rfl, -⟩ := h; rw [List.mem_singleton.1 hu]; rfl
theorem OwnsAll.one : ∀ {w : World} {ds : List Dat} {cs : List Value} {B : Nat → Prop}, OwnsAll w ds cs B → ∀ u ∈ cs, u.oneCell' = true
  | _, [], _, _, h, u, hu => by rw [OwnsAll] at h; subst h; cases hu
  | _, d :: ds, _, _, h, u, hu => by
    rw [OwnsAll] at h
    obtain ⟨c1, c2, B1, B2, rfl, -, -, -, g4, g5⟩ := h
    rcases List.mem_append.1 hu with hu | hu
    · exact Owns.one g4 u hu
    · exact OwnsAll.one g5 u hu
end
def Grow (E : TypeId) (k lo : Nat) (w : World) (A : Option Addr) (n c : Nat) (L : List Dat) (B : Nat → Prop) : Prop :=
  ∃ xs, w.ownsRow lo E k (.slice A n c) n xs ∧ OwnsAll w L xs B ∧ L.length = n ∧ (∀ x ∈ L, x.width = k) ∧ (∀ a, A = some a → ¬ B a.block ∧ a.block < w.heap.size) ∧ ∀ b, B b → b < w.heap.size
section
variable {E : TypeId} {k lo : Nat} {w w' : World} {A : Option Addr} {n c : Nat} {L : List Dat} {B : Nat → Prop}
theorem Grow.nil (E : TypeId) (k lo : Nat) (w : World) : Grow E k lo w none 0 0 [] (fun _ => False) :=
  ⟨[], World.ownsRow_nil w lo E k, (by rw [OwnsAll]), rfl, (fun x hx => by cases hx), (fun a e => by cases e), (fun b hb => hb.elim)⟩
theorem Grow.own (h : Grow E k lo w A n c L B) : ∀ g, (Value.slice A n c).ownBlock = some g → lo ≤ g ∧ g < w.heap.size ∧ ¬ B g := by
  obtain ⟨xs, h1, -, -, -, h5, -⟩ := h
  intro g hg
  cases A with
  | none => simp [Value.ownBlock] at hg
  | some a =>
    have hl := (h1.lt g hg).1
    simp [Value.ownBlock] at hg
    subst hg
    exact ⟨hl, (h5 a rfl).2, (h5 a rfl).1⟩
theorem Grow.touch {S : Nat → Prop} (h : Grow E k lo w A n c L B) (ht : Touch S w w') (hA : ∀ a, A = some a → ¬ S a.block) (hB : ∀ b, B b → ¬ S b) : Grow E k lo w' A n c L B := by
  obtain ⟨xs, h1, h2, h3, h4, h5, h6⟩ := h
  refine ⟨xs, ⟨h1.1, ?_⟩, h2.same (fun b hb hlt => ht.block b hlt (hB b hb)), h3, h4, fun a e => ⟨(h5 a e).1, Nat.lt_of_lt_of_le (h5 a e).2 ht.size⟩, fun b hb => Nat.lt_of_lt_of_le (h6 b hb) ht.size⟩
  rcases h1.2 with hn | ⟨g, cap, cur, hv, hb, hgg, rest⟩
  · exact .inl hn
  · have hAe : A = some ⟨g, 0, none⟩ := by injection hv
    exact .inr ⟨g, cap, cur, hv, hb, (ht.block g (Array.getElem?_eq_some_iff.1 hgg).1 (hA _ hAe)).trans hgg, rest⟩
theorem Grow.below (h : Grow E k lo w A n c L B) (hb : Below w.heap.size w w') : Grow E k lo w' A n c L B := h.touch (S := fun _ => False) (Touch.of_below hb) (fun _ _ h => h) (fun _ _ h => h)
theorem Grow.owns (h : Grow E k lo w A n c L B) : Owns w (.l L) [.slice A n c] (fun b => (∃ a, A = some a ∧ b = a.block) ∨ B b) := by
  obtain ⟨xs, h1, h2, h3, h4, h5, h6⟩ := h
  rw [Owns]
  refine ⟨A, n, c, rfl, h3, ?_⟩
  rcases h1.2 with ⟨-, hn⟩ | ⟨g, cap, cur, hv, hb, hgg, hnc, hcm, hcs, htk⟩
  · exact Or.inl (List.eq_nil_of_length_eq_zero (by omega))
  · have hAe : A = some ⟨g, 0, none⟩ := by injection hv
    have hW : widthAll L = n * k := by rw [widthAll_of h4, h3]
    refine Or.inr ⟨g, E, cur, B, hAe, Or.inl ⟨_, hAe, rfl⟩, fun b hb => ⟨Or.inr hb, fun e => (h5 _ hAe).1 (by show B g; rw [← e]; exact hb)⟩, hgg, ?_, ?_⟩
    · exact ⟨by rw [hW, hcs]; exact Nat.mul_le_mul_right _ hnc, by injection hv with _ _ hcc; omega⟩
    · rw [hW, htk]; exact h2
end
def Src (k : Nat) (w : World) (A : Option Addr) (m : Nat) (L : List Dat) (B : Nat → Prop) : Prop :=
  ∃ xs, Rd w w.heap.size A xs ∧ OwnsAll w L xs B ∧ L.length = m ∧ (∀ x ∈ L, x.width = k) ∧ ∀ b, B b → b < w.heap.size
theorem Src.lit {w : World} {k : Nat} {d : Dat} {xs : List Value} {C : Array Value} {B : Nat → Prop} {E : TypeId} (hC : C.toList = xs) (ho : Owns w d xs B) (hw : d.width = k) (hB : ∀ b, B b → b < w.heap.size) : Src k (w.alloc (.cells C E)) (some ⟨w.heap.size, 0, none⟩) 1 [d] B := by
  have hb : Below w.heap.size w (w.alloc (.cells C E)) := (Below.refl _ _).alloc (Nat.le_refl _) _
  refine ⟨xs, Or.inr ⟨w.heap.size, 0, rfl, by simp, fun j v hj => ?_⟩, ?_, rfl, fun x hx => by rw [List.mem_singleton.1 hx]; exact hw, fun b h => Nat.lt_of_lt_of_le (hB b h) hb.size⟩
  · rw [Nat.zero_add, cell_of_row _ w.heap.size j C E (0, 0) (by show (w.heap.push _)[w.heap.size]? = _; simp)]
    subst hC
    simpa using hj
  · rw [OwnsAll]
    exact ⟨xs, [], B, (fun _ => False), (List.append_nil _).symm, fun b h => h, fun b h => h.elim, fun b _ h => h, ho.below hb, by rw [OwnsAll]⟩
section
variable {P : Program} (w : World)
theorem run_append_dat (k : Nat) (hk : 0 < k) (t ty E : TypeId) (i : TypeInfo) (z : Value) (bytes : Nat) (ht : P.underlying t = some (.slice E)) (hi : P.info? E = some i) (hz : i.zero = some z)
    (hsize : i.size = k) (hzs : z.cells.size = k) (hby : i.bytes = bytes) (lo : Nat) (A0 : Option Addr) (n c0 : Nat) (L : List Dat) (B : Nat → Prop) (hO : Grow E k lo w A0 n c0 L B)
    (A : Option Addr) (m c : Nat) (L2 : List Dat) (B2 : Nat → Prop) (hR : Src k w A m L2 B2) (hd : ∀ b, B b → ¬ B2 b) (hd2 : ∀ a, A0 = some a → ¬ B2 a.block) (h63 : n + m ≤ maxLen) (hbytes : (n + m) * bytes ≤ 140737488355328) (hlo : lo ≤ w.heap.size) :
    ∃ A' c' w', (Builtin.append_ #[t, t] ty #[.slice A0 n c0, .slice A m c]).run P w = .ok (.slice A' (n + m) c') w' ∧ Grow E k lo w' A' (n + m) c' (L ++ L2) (fun b => B b ∨ B2 b) ∧ Touch (fun b => ∃ a, A0 = some a ∧ b = a.block) w w' ∧ (∀ a, A' = some a → A0 = some a ∨ w.heap.size ≤ a.block) := by
  have hown := hO.own
  obtain ⟨xs, g1, g2, g3, g4, g5, g6⟩ := hO
  obtain ⟨ys, s1, s2, s3, s4, s5⟩ := hR
  have hyl : ys.length = m * k := by rw [s2.lies.len, widthAll_of s4, s3]
  have hfin : ∀ v' w', w'.ownsRow lo E k v' (n + m) (xs ++ ys) → w.grownBy w' (Value.slice A0 n c0).ownBlock → (∀ g, v'.ownBlock = some g → (Value.slice A0 n c0).ownBlock = some g ∨ w.heap.size ≤ g) →
      (Builtin.append_ #[t, t] ty #[.slice A0 n c0, .slice A m c]).run P w = .ok v' w' →
      ∃ A' c' w', (Builtin.append_ #[t, t] ty #[.slice A0 n c0, .slice A m c]).run P w = .ok (.slice A' (n + m) c') w' ∧ Grow E k lo w' A' (n + m) c' (L ++ L2) (fun b => B b ∨ B2 b) ∧ Touch (fun b => ∃ a, A0 = some a ∧ b = a.block) w w' ∧ (∀ a, A' = some a → A0 = some a ∨ w.heap.size ≤ a.block) := by
    intro v' w' h1 h2 h3 h4
    have ht : Touch (fun b => ∃ a, A0 = some a ∧ b = a.block) w w' := ⟨h2.os, h2.tape, h2.output, h2.size, fun k hk hn => h2.block k hk (fun e => hn (by
      cases A0 with
      | none => simp [Value.ownBlock] at e
      | some a => simp [Value.ownBlock] at e; exact ⟨a, rfl, e⟩))⟩
    have hform : ∃ A' c', v' = .slice A' (n + m) c' := by
      rcases h1.2 with ⟨rfl, e⟩ | ⟨g, cap, cur, rfl, -⟩
      · exact ⟨none, 0, by rw [e]⟩
      · exact ⟨_, _, rfl⟩
    obtain ⟨A', c', rfl⟩ := hform
    have hA' : ∀ a, A' = some a → A0 = some a ∨ w.heap.size ≤ a.block := by
      intro a e
      subst e
      rcases h3 a.block (by simp [Value.ownBlock]) with e | e
      · left
        cases A0 with
        | none => simp [Value.ownBlock] at e
        | some a0 =>
          simp [Value.ownBlock] at e
          rcases g1.2 with ⟨hv, -⟩ | ⟨g, cap, cur, hv, -⟩
          · injection hv with hv; cases hv
          · injection hv with hv
            rcases h1.2 with ⟨hv', -⟩ | ⟨g', cap', cur', hv', -⟩
            · injection hv' with hv'; cases hv'
            · injection hv' with hv'
              injection hv with hv
              injection hv' with hv'
              subst hv hv'
              simp only at e
              rw [e]
      · exact Or.inr e
    have hlt : ∀ a, A' = some a → a.block < w'.heap.size := by
      intro a e
      subst e
      rcases h1.2 with ⟨hv, -⟩ | ⟨g, cap, cur, hv, -, hgg, -⟩
      · injection hv with hv; cases hv
      · injection hv with hv
        injection hv with hv
        subst hv
        exact (Array.getElem?_eq_some_iff.1 hgg).1
    refine ⟨A', c', w', h4, ⟨xs ++ ys, h1, (g2.append s2 hd).same (fun b hb hlt' => ht.block b hlt' ?_), by rw [List.length_append, g3, s3], fun x hx => ?_, fun a e => ⟨fun hb => ?_, hlt a e⟩, fun b hb => ?_⟩, ht, hA'⟩
    · rintro ⟨a, e, rfl⟩
      rcases hb with hb | hb
      · exact (g5 a e).1 hb
      · exact hd2 a e hb
    · rcases List.mem_append.1 hx with hx | hx
      · exact g4 x hx
      · exact s4 x hx
    · rcases hA' a e with e' | e'
      · rcases hb with hb | hb
        · exact (g5 a e').1 hb
        · exact hd2 a e' hb
      · rcases hb with hb | hb
        · have := g6 _ hb; omega
        · have := s5 _ hb; omega
    · rcases hb with hb | hb
      · exact Nat.lt_of_lt_of_le (g6 b hb) ht.size
      · exact Nat.lt_of_lt_of_le (s5 b hb) ht.size
  have hcase : (m = 0 ∧ ys = [] ∧ A = none) ∨ ∃ ad, A = some ad := by
    cases A with
    | some ad => exact Or.inr ⟨ad, rfl⟩
    | none =>
      left
      rcases s1 with h | ⟨b, off, e, _⟩
      · subst h
        have h0 : m * k = 0 := by simpa using hyl.symm
        rcases Nat.mul_eq_zero.1 h0 with h1 | h1
        · exact ⟨h1, rfl, rfl⟩
        · omega
      · cases e
  rcases hcase with ⟨rfl, rfl, rfl⟩ | ⟨ad, rfl⟩
  · exact hfin _ w (by simpa using g1) (World.grownBy.refl w _) (fun g hg => Or.inl (by simpa [Value.ownBlock] using hg)) (run_append_of_nil w lo t ty E i k ht hi _ n _ g1 c)
  · have hcells : ∀ j u, ys[j]? = some u → w.cell? (ad.add j) = some u := by
      intro j u hu
      rcases s1 with h | ⟨b, off, e, hb, hc⟩
      · rw [h] at hu; simp at hu
      · obtain rfl := Option.some.inj e
        rw [Addr.add_lit]
        exact hc j u hu
    obtain ⟨v', w', hrun, h2, h3, h4, h5⟩ := run_append_own_at (P := P) w lo t ty E i z k bytes ht hi hz hsize hby hzs hk _ n _ g1 ad m c ys hyl hcells s2.one h63 hbytes hlo
    exact hfin v' w' h2 h3 (fun g hg => by
      rcases h5 with e | e
      · exact Or.inl (by rw [← e]; exact hg)
      · rw [e] at hg
        exact Or.inr (Nat.le_of_eq (Option.some.inj hg))) hrun
theorem wp_append_dat {o : Oper} {a : Act} {K : Act → World → Prop} {Q : Exit → Act → World → Prop} (s x : Operand) (t : TypeId)
    (ho : o.op = .call { callee := .builtin .append, args := #[s, x], argTypes := #[t, t] }) (k : Nat) (hk : 0 < k)
    (E : TypeId) (i : TypeInfo) (z : Value) (bytes : Nat) (ht : P.underlying t = some (.slice E)) (hi : P.info? E = some i) (hz : i.zero = some z)
    (hsize : i.size = k) (hzs : z.cells.size = k) (hby : i.bytes = bytes) (lo : Nat) (A0 : Option Addr) (n c0 : Nat) (L : List Dat) (B : Nat → Prop) (hs : a.eval s = .slice A0 n c0) (hO : Grow E k lo w A0 n c0 L B)
    (A : Option Addr) (m c : Nat) (L2 : List Dat) (B2 : Nat → Prop) (hx : a.eval x = .slice A m c) (hR : Src k w A m L2 B2) (hd : ∀ b, B b → ¬ B2 b) (hd2 : ∀ a, A0 = some a → ¬ B2 a.block) (h63 : n + m ≤ maxLen) (hbytes : (n + m) * bytes ≤ 140737488355328) (hlo : lo ≤ w.heap.size)
    (h : ∀ A' c' w', Grow E k lo w' A' (n + m) c' (L ++ L2) (fun b => B b ∨ B2 b) → Touch (fun b => ∃ a, A0 = some a ∧ b = a.block) w w' → (∀ a, A' = some a → A0 = some a ∨ w.heap.size ≤ a.block) → K (a.put o.dst (.slice A' (n + m) c')) w') : o.wp P a w K Q := by
  obtain ⟨A', c', w', hrun, h2, h3, h4⟩ := run_append_dat (P := P) w k hk t o.type E i z bytes ht hi hz hsize hzs hby lo A0 n c0 L B hO A m c L2 B2 hR hd hd2 h63 hbytes hlo
  unfold Oper.wp execOp
  simp only [ho, resolve, invoke, builtin, Sem.run_bind, Sem.run_pure, Result.andThen_ok, List.map_toArray, List.map_cons, List.map_nil, hs, hx, hrun]
  exact h A' c' w' h2 h3 h4
theorem wpList_append_dat {ops : Array Oper} {rest : List Oper} {o : Oper} {a : Act} {Q : Exit → Act → World → Prop} (hgd : o.guard = none) (s x : Operand) (t : TypeId)
    (ho : o.op = .call { callee := .builtin .append, args := #[s, x], argTypes := #[t, t] }) (k : Nat) (hk : 0 < k)
    (E : TypeId) (i : TypeInfo) (z : Value) (bytes : Nat) (ht : P.underlying t = some (.slice E)) (hi : P.info? E = some i) (hz : i.zero = some z)
    (hsize : i.size = k) (hzs : z.cells.size = k) (hby : i.bytes = bytes) (lo : Nat) (A0 : Option Addr) (n c0 : Nat) (L : List Dat) (B : Nat → Prop) (hs : a.eval s = .slice A0 n c0) (hO : Grow E k lo w A0 n c0 L B)
    (A : Option Addr) (m c : Nat) (L2 : List Dat) (B2 : Nat → Prop) (hx : a.eval x = .slice A m c) (hR : Src k w A m L2 B2) (hd : ∀ b, B b → ¬ B2 b) (hd2 : ∀ a, A0 = some a → ¬ B2 a.block) (h63 : n + m ≤ maxLen) (hbytes : (n + m) * bytes ≤ 140737488355328) (hlo : lo ≤ w.heap.size)
    (h : ∀ A' c' w', Grow E k lo w' A' (n + m) c' (L ++ L2) (fun b => B b ∨ B2 b) → Touch (fun b => ∃ a, A0 = some a ∧ b = a.block) w w' → (∀ a, A' = some a → A0 = some a ∨ w.heap.size ≤ a.block) → wpList P ops Q rest (a.put o.dst (.slice A' (n + m) c')) w') : wpList P ops Q (o :: rest) a w :=
  wpList_plain hgd fun _ hK => wp_append_dat w s x t ho k hk E i z bytes ht hi hz hsize hzs hby lo A0 n c0 L B hs hO A m c L2 B2 hx hR hd hd2 h63 hbytes hlo fun A' c' w' h2 h3 h4 => hK _ _ (h A' c' w' h2 h3 h4)
theorem step_append_dat {ops : Array Oper} {o : Oper} {a : Act} {K : Act → World → Prop} {Q : Exit → Act → World → Prop} {X : Prop} (hgd : o.guard = none) (s x : Operand) (t : TypeId)
    (ho : o.op = .call { callee := .builtin .append, args := #[s, x], argTypes := #[t, t] }) (k : Nat) (hk : 0 < k)
    (E : TypeId) (i : TypeInfo) (z : Value) (bytes : Nat) (ht : P.underlying t = some (.slice E)) (hi : P.info? E = some i) (hz : i.zero = some z)
    (hsize : i.size = k) (hzs : z.cells.size = k) (hby : i.bytes = bytes) (lo : Nat) (A0 : Option Addr) (n c0 : Nat) (L : List Dat) (B : Nat → Prop) (hs : a.eval s = .slice A0 n c0) (hO : Grow E k lo w A0 n c0 L B)
    (A : Option Addr) (m c : Nat) (L2 : List Dat) (B2 : Nat → Prop) (hx : a.eval x = .slice A m c) (hR : Src k w A m L2 B2) (hd : ∀ b, B b → ¬ B2 b) (hd2 : ∀ a, A0 = some a → ¬ B2 a.block) (h63 : n + m ≤ maxLen) (hbytes : (n + m) * bytes ≤ 140737488355328) (hlo : lo ≤ w.heap.size)
    (h : ∀ A' c' w', Grow E k lo w' A' (n + m) c' (L ++ L2) (fun b => B b ∨ B2 b) → Touch (fun b => ∃ a, A0 = some a ∧ b = a.block) w w' → (∀ a, A' = some a → A0 = some a ∨ w.heap.size ≤ a.block) → K (a.put o.dst (.slice A' (n + m) c')) w') :
    if Region.wanted o (yielded ops a.tmps) = true then Oper.wp P o a w K Q else X := by
  have hw : Region.wanted o (yielded ops a.tmps) = true := by simp [Region.wanted, hgd]
  rw [if_pos hw]
  exact wp_append_dat w s x t ho k hk E i z bytes ht hi hz hsize hzs hby lo A0 n c0 L B hs hO A m c L2 B2 hx hR hd hd2 h63 hbytes hlo h
end
mutual
def Dat.flat : Dat → Bool
  | .i _ => true
  | .s _ => true
  | .b _ => true
  | .r ds => flatAll ds
  | .l _ => false
def flatAll : List Dat → Bool
  | [] => true
  | d :: ds => d.flat && flatAll ds
end
mutual
theorem Lies.owns : ∀ {w : World} {d : Dat} {cs : List Value}, d.flat = true → Lies w d cs → Owns w d cs (fun _ => False)
  | _, .i _, _, _, h => by rw [Lies] at h; rw [Owns]; exact h
  | _, .s _, _, _, h => by rw [Lies] at h; rw [Owns]; exact h
  | _, .b _, _, _, h => by rw [Lies] at h; rw [Owns]; exact h
  | _, .r ds, _, hf, h => by rw [Lies] at h; rw [Owns]; exact LiesAll.owns (by simpa [Dat.flat] using hf) h
  | _, .l _, _, hf, _ => by simp [Dat.flat] at hf
theorem LiesAll.owns : ∀ {w : World} {ds : List Dat} {cs : List Value}, flatAll ds = true → LiesAll w ds cs → OwnsAll w ds cs (fun _ => False)
  | _, [], _, _, h => by rw [LiesAll] at h; rw [OwnsAll]; exact h
  | _, d :: ds, _, hf, h => by
    rw [LiesAll] at h
    rw [OwnsAll]
    obtain ⟨c1, c2, rfl, h1, h2⟩ := h
    simp only [flatAll, Bool.and_eq_true] at hf
    exact ⟨c1, c2, (fun _ => False), (fun _ => False), rfl, (fun b h => h), (fun b h => h), (fun b h _ => h), Lies.owns hf.1 h1, LiesAll.owns hf.2 h2⟩
end
theorem flatAll_of : ∀ {ds : List Dat}, (∀ x ∈ ds, x.flat = true) → flatAll ds = true
  | [], _ => rfl
  | d :: ds, h => by rw [flatAll, h d (by simp), flatAll_of (fun x hx => h x (List.mem_cons_of_mem _ hx))]; rfl
theorem Src.of_lies {w : World} {k : Nat} {L : List Dat} {A : Option Addr} {n c : Nat} (h : Lies w (.l L) [.slice A n c]) (hk : ∀ x ∈ L, x.width = k) (hf : ∀ x ∈ L, x.flat = true) : Src k w A n L (fun _ => False) := by
  have hn := h.count
  rw [Lies] at h
  obtain ⟨A', n', c', e, -, h⟩ := h
  simp only [List.cons.injEq, Value.slice.injEq, and_true] at e
  obtain ⟨rfl, rfl, rfl⟩ := e
  rcases h with rfl | ⟨b, off, xs, rfl, ⟨hlt, hnc⟩, hx, hc⟩
  · exact ⟨[], Or.inl rfl, (by rw [OwnsAll]), hn, (fun x hx => by cases hx), (fun b h => h.elim)⟩
  · exact ⟨xs, Or.inr ⟨b, off, rfl, hlt, hc⟩, LiesAll.owns (flatAll_of hf) hx, hn, hk, (fun b h => h.elim)⟩
end Go.Proofs.Ytmeacgpebpfpbaa
namespace Go.Proofs.Ytmeacgpebpfpbaa
open Go.RowKit
structure Elt (α : Type) where
  dat : α → Dat
  own : World → α → List Value → (Nat → Prop) → Prop
  k : Nat
  pos : 0 < k
  toOwns : ∀ {w : World} {x : α} {cs : List Value} {B : Nat → Prop}, own w x cs B → Owns w (dat x) cs B
  width : ∀ x, (dat x).width = k
  same : ∀ {w w' : World} {x : α} {cs : List Value} {B : Nat → Prop}, own w x cs B → (∀ b, B b → b < w.heap.size → w'.heap[b]? = w.heap[b]?) → own w' x cs B
  mono : ∀ {w : World} {x : α} {cs : List Value} {B B' : Nat → Prop}, own w x cs B → (∀ b, B b → B' b) → own w x cs B'
section
variable {α : Type} (P : Elt α)
def RowsP (w : World) : List α → List Value → (Nat → Prop) → Prop
  | [], cs, _ => cs = []
  | x :: L, cs, B => ∃ (c1 c2 : List Value) (B1 B2 : Nat → Prop), cs = c1 ++ c2 ∧ (∀ b, B1 b → B b) ∧ (∀ b, B2 b → B b) ∧ (∀ b, B1 b → ¬ B2 b) ∧ P.own w x c1 B1 ∧ RowsP w L c2 B2
def GrowP (E : TypeId) (lo : Nat) (w : World) (A : Option Addr) (n c : Nat) (L : List α) (B : Nat → Prop) : Prop :=
  ∃ (xs : List Value) (B' : Nat → Prop), w.ownsRow lo E P.k (.slice A n c) n xs ∧ RowsP P w L xs B' ∧ L.length = n ∧ (∀ b, B' b → B b ∧ b < w.heap.size) ∧ ∀ a, A = some a → B a.block ∧ ¬ B' a.block
end
section
variable {α : Type} {P : Elt α} {w w' : World}
theorem Elt.len {x : α} {cs : List Value} {B : Nat → Prop} (h : P.own w x cs B) : cs.length = P.k := by rw [(P.toOwns h).lies.len, P.width]
theorem RowsP.same : ∀ {L : List α} {cs : List Value} {B : Nat → Prop}, RowsP P w L cs B → (∀ b, B b → b < w.heap.size → w'.heap[b]? = w.heap[b]?) → RowsP P w' L cs B
  | [], _, _, h, _ => h
  | x :: L, cs, B, h, hB => by
    obtain ⟨c1, c2, B1, B2, rfl, h1, h2, h3, h4, h5⟩ := h
    exact ⟨c1, c2, B1, B2, rfl, h1, h2, h3, P.same h4 (fun b hb => hB b (h1 b hb)), RowsP.same h5 (fun b hb => hB b (h2 b hb))⟩
theorem RowsP.owns : ∀ {L : List α} {cs : List Value} {B : Nat → Prop}, RowsP P w L cs B → OwnsAll w (L.map P.dat) cs B
  | [], _, _, h => by rw [List.map_nil, OwnsAll]; exact h
  | x :: L, cs, B, h => by
    obtain ⟨c1, c2, B1, B2, rfl, h1, h2, h3, h4, h5⟩ := h
    rw [List.map_cons, OwnsAll]
    exact ⟨c1, c2, B1, B2, rfl, h1, h2, h3, P.toOwns h4, RowsP.owns h5⟩
theorem RowsP.len : ∀ {L : List α} {cs : List Value} {B : Nat → Prop}, RowsP P w L cs B → cs.length = L.length * P.k
  | [], _, _, h => by rw [show _ = [] from h]; simp
  | x :: L, cs, B, h => by
    obtain ⟨c1, c2, B1, B2, rfl, h1, h2, h3, h4, h5⟩ := h
    rw [List.length_append, Elt.len h4, RowsP.len h5, List.length_cons, Nat.add_mul]
    omega
theorem RowsP.snoc : ∀ {L : List α} {xs cs : List Value} {B Bx : Nat → Prop} {x : α}, RowsP P w L xs B → P.own w x cs Bx → (∀ b, B b → ¬ Bx b) → RowsP P w (L ++ [x]) (xs ++ cs) (fun b => B b ∨ Bx b)
  | [], xs, cs, B, Bx, x, h, hx, _ => by
    rw [show xs = [] from h]
    exact ⟨cs, [], Bx, (fun _ => False), (List.append_nil cs).symm, fun b hb => Or.inr hb, fun b hb => hb.elim, fun b _ hb => hb, hx, rfl⟩
  | y :: L, xs, cs, B, Bx, x, h, hx, hd => by
    obtain ⟨c1, c2, B1, B2, rfl, h1, h2, h3, h4, h5⟩ := h
    refine ⟨c1, c2 ++ cs, B1, (fun b => B2 b ∨ Bx b), List.append_assoc _ _ _, fun b hb => Or.inl (h1 b hb), fun b hb => ?_, fun b hb hr => ?_, h4, RowsP.snoc h5 hx (fun b hb => hd b (h2 b hb))⟩
    · rcases hb with hb | hb
      · exact Or.inl (h2 b hb)
      · exact Or.inr hb
    · rcases hr with hr | hr
      · exact h3 b hb hr
      · exact hd b (h1 b hb) hr
theorem RowsP.last : ∀ {L : List α} {xs : List Value} {B : Nat → Prop} {x : α}, RowsP P w (L ++ [x]) xs B →
    ∃ (ys cs : List Value) (Br Bx : Nat → Prop), xs = ys ++ cs ∧ (∀ b, Br b → B b) ∧ (∀ b, Bx b → B b) ∧ (∀ b, Br b → ¬ Bx b) ∧ RowsP P w L ys Br ∧ P.own w x cs Bx
  | [], xs, B, x, h => by
    obtain ⟨c1, c2, B1, B2, rfl, h1, h2, h3, h4, h5⟩ := h
    rw [show c2 = [] from h5]
    exact ⟨[], c1, (fun _ => False), B1, (List.append_nil c1), fun b hb => hb.elim, h1, fun b hb => hb.elim, rfl, h4⟩
  | y :: L, xs, B, x, h => by
    obtain ⟨c1, c2, B1, B2, rfl, h1, h2, h3, h4, h5⟩ := h
    obtain ⟨ys, cs, Br, Bx, rfl, g1, g2, g3, g4, g5⟩ := RowsP.last h5
    refine ⟨c1 ++ ys, cs, (fun b => B1 b ∨ Br b), Bx, (List.append_assoc _ _ _).symm, fun b hb => ?_, fun b hb => h2 b (g2 b hb), fun b hb hx => ?_, ⟨c1, ys, B1, Br, rfl, fun b hb => Or.inl hb, fun b hb => Or.inr hb, fun b hb hr => h3 b hb (g1 b hr), h4, g4⟩, g5⟩
    · rcases hb with hb | hb
      · exact h1 b hb
      · exact h2 b (g1 b hb)
    · rcases hb with hb | hb
      · exact h3 b hb (g2 b hx)
      · exact g3 b hb hx
end
section
variable {α : Type} {P : Elt α} {w w' : World} {E : TypeId} {lo : Nat} {A : Option Addr} {n c : Nat} {L : List α} {B B' : Nat → Prop}
theorem GrowP.nil (P : Elt α) (E : TypeId) (lo : Nat) (w : World) (B : Nat → Prop) : GrowP P E lo w none 0 0 [] B :=
  ⟨[], (fun _ => False), World.ownsRow_nil w lo E P.k, rfl, rfl, fun b hb => hb.elim, fun a e => by cases e⟩
theorem GrowP.drew (h : GrowP P E lo w A n c L B) : GrowP P E lo w.drew A n c L B := by
  obtain ⟨xs, B1, h1, h2, h3, h4, h5⟩ := h
  exact ⟨xs, B1, ⟨h1.1, h1.2⟩, h2.same (fun _ _ _ => rfl), h3, h4, h5⟩
theorem GrowP.count (h : GrowP P E lo w A n c L B) : L.length = n := by obtain ⟨xs, B1, h1, h2, h3, h4, h5⟩ := h; exact h3
theorem GrowP.mono (h : GrowP P E lo w A n c L B) (hB : ∀ b, B b → B' b) : GrowP P E lo w A n c L B' := by
  obtain ⟨xs, B1, h1, h2, h3, h4, h5⟩ := h
  exact ⟨xs, B1, h1, h2, h3, fun b hb => ⟨hB b (h4 b hb).1, (h4 b hb).2⟩, fun a e => ⟨hB _ (h5 a e).1, (h5 a e).2⟩⟩
theorem ownsRow_same {k : Nat} {v : Value} {xs : List Value} (h : w.ownsRow lo E k v n xs) (hB : ∀ g, v.ownBlock = some g → g < w.heap.size → w'.heap[g]? = w.heap[g]?) : w'.ownsRow lo E k v n xs := by
  refine ⟨h.1, ?_⟩
  rcases h.2 with hn | ⟨g, cap, cur, hv, hb, hgg, rest⟩
  · exact .inl hn
  · exact .inr ⟨g, cap, cur, hv, hb, (hB g (by rw [hv]; rfl) (Array.getElem?_eq_some_iff.1 hgg).1).trans hgg, rest⟩
theorem GrowP.same (h : GrowP P E lo w A n c L B) (hB : ∀ b, B b → b < w.heap.size → w'.heap[b]? = w.heap[b]?) : GrowP P E lo w' A n c L B := by
  obtain ⟨xs, B1, h1, h2, h3, h4, h5⟩ := h
  refine ⟨xs, B1, ownsRow_same h1 (fun g hg hlt => hB g ?_ hlt), h2.same (fun b hb hlt => hB b (h4 b hb).1 hlt), h3, fun b hb => ⟨(h4 b hb).1, ?_⟩, h5⟩
  · cases A with
    | none => simp [Value.ownBlock] at hg
    | some a =>
      simp [Value.ownBlock] at hg
      subst hg
      exact (h5 a rfl).1
  · obtain ⟨h6, h7⟩ := h4 b hb
    have e := hB b h6 h7
    rw [Array.getElem?_eq_getElem h7] at e
    exact (Array.getElem?_eq_some_iff.1 e).1
theorem GrowP.touch {S : Nat → Prop} (h : GrowP P E lo w A n c L B) (ht : Touch S w w') (hS : ∀ b, B b → ¬ S b) : GrowP P E lo w' A n c L B := h.same fun b hb hlt => ht.block b hlt (hS b hb)
theorem GrowP.below (h : GrowP P E lo w A n c L B) (hb : Below w.heap.size w w') : GrowP P E lo w' A n c L B := h.same fun b _ hlt => hb.block b hlt
theorem GrowP.owns (h : GrowP P E lo w A n c L B) : Owns w (.l (L.map P.dat)) [.slice A n c] B := by
  obtain ⟨xs, B1, h1, h2, h3, h4, h5⟩ := h
  have h2' := h2.owns
  rw [Owns]
  refine ⟨A, n, c, rfl, by rw [List.length_map]; exact h3, ?_⟩
  rcases h1.2 with ⟨-, hn⟩ | ⟨g, cap, cur, hv, hb, hgg, hnc, hcm, hcs, htk⟩
  · exact Or.inl (by rw [List.eq_nil_of_length_eq_zero (by omega : L.length = 0)]; rfl)
  · have hAe : A = some ⟨g, 0, none⟩ := by injection hv
    have hW : widthAll (L.map P.dat) = n * P.k := by
      rw [widthAll_of (k := P.k) (fun x hx => by obtain ⟨y, -, rfl⟩ := List.mem_map.1 hx; exact P.width y), List.length_map, h3]
    refine Or.inr ⟨g, E, cur, B1, hAe, (h5 _ hAe).1, fun b hb => ⟨(h4 b hb).1, fun e => (h5 _ hAe).2 (by show B1 g; rw [← e]; exact hb)⟩, hgg, ?_, ?_⟩
    · exact ⟨by rw [hW, hcs]; exact Nat.mul_le_mul_right _ hnc, by injection hv with _ _ hcc; omega⟩
    · rw [hW, htk]; exact h2'
theorem GrowP.cap (h : GrowP P E lo w A n c L B) : n ≤ c := by
  obtain ⟨xs, B1, h1, h2, h3, h4, h5⟩ := h
  rcases h1.2 with ⟨hv, hn⟩ | ⟨g, cap, cur, hv, hb, hgg, hnc, hcm, hcs, htk⟩
  · injection hv with _ _ h6; omega
  · injection hv with _ _ h6; omega
theorem GrowP.last {x : α} (h : GrowP P E lo w A n c (L ++ [x]) B) :
    ∃ (g : Nat) (cs : List Value) (Bx : Nat → Prop), A = some ⟨g, 0, none⟩ ∧ n = L.length + 1 ∧ B g ∧ lo ≤ g ∧ g < w.heap.size ∧ P.own w x cs Bx ∧ cs.length = P.k ∧
      (∀ (j : Nat) (v : Value), cs[j]? = some v → w.cell? ⟨g, L.length * P.k + j, none⟩ = some v) ∧ (∀ j, w.frozen? ⟨g, j, none⟩ = false) ∧
      (∀ b, Bx b → B b ∧ b ≠ g ∧ b < w.heap.size) ∧
      (∀ (w' : World) (x' : α) (Bx' : Nat → Prop), Touch Bx w w' → P.own w' x' cs Bx' → (∀ b, Bx' b → Bx b ∨ (w.heap.size ≤ b ∧ b < w'.heap.size)) →
        GrowP P E lo w' A n c (L ++ [x']) (fun b => B b ∨ (w.heap.size ≤ b ∧ b < w'.heap.size))) ∧
      (∀ (w' : World) (x' : α) (j : Nat) (u : Value) (Bx' : Nat → Prop), Touch Bx w w' → j < P.k → P.own w' x' (cs.set j u) Bx' → (∀ b, Bx' b → Bx b ∨ (w.heap.size ≤ b ∧ b < w'.heap.size)) →
        GrowP P E lo (w'.setCell ⟨g, L.length * P.k + j, none⟩ u) A n c (L ++ [x']) (fun b => B b ∨ (w.heap.size ≤ b ∧ b < w'.heap.size))) := by
  obtain ⟨xs, B1, h1, h2, h3, h4, h5⟩ := h
  obtain ⟨ys, cs, Br, Bx, rfl, g1, g2, g3, g4, g5⟩ := h2.last
  have hyl := g4.len
  have hcl : cs.length = P.k := Elt.len g5
  rw [List.length_append, List.length_singleton] at h3
  rcases h1.2 with ⟨-, hn⟩ | ⟨g, cap, cur, hv, hb, hgg, hnc, hcm, hcs, htk⟩
  · omega
  · injection hv with hA _ hc
    subst hA
    subst hc
    have hgl := (Array.getElem?_eq_some_iff.1 hgg).1
    have hgB := h5 _ rfl
    have hcell : ∀ (j : Nat) (v : Value), cs[j]? = some v → w.cell? ⟨g, L.length * P.k + j, none⟩ = some v := by
      intro j v hj
      have hjl := (List.getElem?_eq_some_iff.1 hj).1
      rw [h1.cellAt (L.length * P.k + j) (by rw [← h3, Nat.add_mul]; omega), List.getElem?_append_right (by omega), hyl, Nat.add_sub_cancel_left]
      exact hj
    have hsnoc : ∀ (w' : World) (x' : α) (cs' : List Value) (Bx' : Nat → Prop), Touch Bx w w' → P.own w' x' cs' Bx' → (∀ b, Bx' b → Bx b ∨ (w.heap.size ≤ b ∧ b < w'.heap.size)) → RowsP P w' (L ++ [x']) (ys ++ cs') (fun b => Br b ∨ Bx' b) := by
      intro w' x' cs' Bx' ht ho hB'
      refine RowsP.snoc (g4.same (fun b hb hlt => ht.block b hlt (g3 b hb))) ho (fun b hb hx => ?_)
      rcases hB' b hx with hx | hx
      · exact g3 b hb hx
      · have := (h4 b (g1 b hb)).2; omega
    refine ⟨g, cs, Bx, rfl, h3.symm, hgB.1, hb, hgl, g5, hcl, hcell, fun j => h1.frozenAt j, fun b hb => ⟨(h4 b (g2 b hb)).1, fun e => hgB.2 (by show B1 g; rw [← e]; exact g2 b hb), (h4 b (g2 b hb)).2⟩, ?_, ?_⟩
    · intro w' x' Bx' ht ho hB'
      have hr := hsnoc w' x' cs Bx' ht ho hB'
      have hng : ¬ Bx g := fun e => hgB.2 (g2 g e)
      refine ⟨_, _, ownsRow_same h1 (fun g' hg' hlt => ?_), hr, by rw [List.length_append, List.length_singleton]; exact h3, fun b hb => ?_, fun a e => ?_⟩
      · obtain rfl : g = g' := by simpa [Value.ownBlock] using hg'
        exact ht.block g hlt hng
      · rcases hb with hb | hb
        · exact ⟨Or.inl (h4 b (g1 b hb)).1, Nat.lt_of_lt_of_le (h4 b (g1 b hb)).2 ht.size⟩
        · rcases hB' b hb with hx | hx
          · exact ⟨Or.inl (h4 b (g2 b hx)).1, Nat.lt_of_lt_of_le (h4 b (g2 b hx)).2 ht.size⟩
          · exact ⟨Or.inr hx, hx.2⟩
      · obtain rfl := Option.some.inj e
        refine ⟨Or.inl hgB.1, fun hb => ?_⟩
        rcases hb with hb | hb
        · exact hgB.2 (g1 _ hb)
        · rcases hB' _ hb with hx | hx
          · exact hng hx
          · have : w.heap.size ≤ g := hx.1
            omega
    · intro w' x' j u Bx' ht hj ho hB'
      have hng : ¬ Bx g := fun e => hgB.2 (g2 g e)
      have hng' : ¬ Bx' g := fun e => by
        rcases hB' _ e with hx | hx
        · exact hng hx
        · have : w.heap.size ≤ g := hx.1
          omega
      have h1' := ownsRow_same (w' := w') h1 (fun g' hg' hlt => by
        obtain rfl : g = g' := by simpa [Value.ownBlock] using hg'
        exact ht.block g hlt hng)
      have hst := (h1'.stored (L.length * P.k + j) u).1
      have e : (ys ++ cs).set (L.length * P.k + j) u = ys ++ cs.set j u := by
        rw [List.set_append_right _ _ (by omega), hyl, Nat.add_sub_cancel_left]
      rw [e] at hst
      have hr := hsnoc w' x' (cs.set j u) Bx' ht ho hB'
      have hsz : (w'.setCell ⟨g, L.length * P.k + j, none⟩ u).heap.size = w'.heap.size := by simp [World.setCell]
      refine ⟨_, _, hst, hr.same (fun b hb _ => Below.heap_setCell _ _ _ _ (fun e => ?_)), by rw [List.length_append, List.length_singleton]; exact h3, fun b hb => ?_, fun a e => ?_⟩
      · have e' : b = g := e
        have hb' : Br g ∨ Bx' g := e' ▸ hb
        exact hb'.elim (fun hb => hgB.2 (g1 g hb)) hng'
      · rw [hsz]
        rcases hb with hb | hb
        · exact ⟨Or.inl (h4 b (g1 b hb)).1, Nat.lt_of_lt_of_le (h4 b (g1 b hb)).2 ht.size⟩
        · rcases hB' b hb with hx | hx
          · exact ⟨Or.inl (h4 b (g2 b hx)).1, Nat.lt_of_lt_of_le (h4 b (g2 b hx)).2 ht.size⟩
          · exact ⟨Or.inr hx, hx.2⟩
      · obtain rfl := Option.some.inj e
        refine ⟨Or.inl hgB.1, fun hb => ?_⟩
        have hb' : Br g ∨ Bx' g := hb
        exact hb'.elim (fun hb => hgB.2 (g1 g hb)) hng'
end
section
variable {P : Program} (w : World)
variable {α : Type} (Q : Elt α)
end
def recE {α β : Type} (nm : α → ByteArray) (kids : α → List β) (Q : Elt β) (E : TypeId) (lo : Nat) : Elt α where
  dat x := .r [.s (nm x), .l ((kids x).map Q.dat)]
  own w x cs B := ∃ A n c, cs = [.string (nm x), .slice A n c] ∧ GrowP Q E lo w A n c (kids x) B
  k := 2
  pos := by decide
  toOwns := fun {w x cs B} ⟨A, n, c, hcs, h⟩ => by
    subst hcs
    rw [Owns, OwnsAll]
    refine ⟨[.string (nm x)], [.slice A n c], (fun _ => False), B, rfl, fun b hb => hb.elim, fun b hb => hb, fun b hb => hb.elim, rfl, ?_⟩
    rw [OwnsAll]
    exact ⟨[.slice A n c], [], B, (fun _ => False), rfl, fun b hb => hb, fun b hb => hb.elim, fun b _ hb => hb, h.owns, rfl⟩
  width := fun x => rfl
  same := fun {w w' x cs B} ⟨A, n, c, hcs, h⟩ hB => ⟨A, n, c, hcs, h.same hB⟩
  mono := fun {w x cs B B'} ⟨A, n, c, hcs, h⟩ hB => ⟨A, n, c, hcs, h.mono hB⟩
end Go.Proofs.Ytmeacgpebpfpbaa
namespace Go.Proofs.Ytmeacgpebpfpbaa
open Go.RowKit
def byteText (z : Int) : ByteArray := ⟨#[UInt8.ofNat z.toNat]⟩
theorem conv1 (w : World) (z : Int) (h0 : 0 ≤ z) (h1 : z ≤ 255) : (convert 22 9 (.slice (some ⟨w.heap.size, 0, none⟩) 1 1)).run Try.prog (w.alloc (.cells #[.int .u8 z] 5)) = .ok (.string (byteText z)) (w.alloc (.cells #[.int .u8 z] 5)) := by
  have k := run_convert_bytes_back (P := Try.prog) (w.alloc (.cells #[.int .u8 z] 5)) 22 9 5 ⟨w.heap.size, 0, none⟩ 1 [UInt8.ofNat z.toNat] Try.underlying22 Try.underlying5 Try.underlying9 (fun j hj => by
    obtain rfl : j = 0 := by simpa using hj
    rw [Addr.add_lit, World.cell?_alloc_new]
    simp
    omega)
  exact k
def mloop (m : Nat) (out : ByteArray) : ByteArray := if _h : m = 0 then out else mloop (m / 10) (byteText (48 + (m : Int) % 10) ++ out)
termination_by m
decreasing_by omega
theorem mloop_zero (out : ByteArray) : mloop 0 out = out := by rw [mloop]; simp
theorem mloop_step {m : Nat} (out : ByteArray) (h : 0 < m) : mloop m out = mloop (m / 10) (byteText (48 + (m : Int) % 10) ++ out) := by rw [mloop, dif_neg (by omega)]
def mtext (k : Nat) : ByteArray := ⟨#[109]⟩ ++ mloop k ⟨#[]⟩
def GivesT (s : ByteArray) (w : World) (e : Ending) (w' : World) : Prop := e = .returned (.string s) ∧ Below w.heap.size w w'
theorem GivesT.ret {s t : ByteArray} {w w' : World} (h : s = t) (hb : Below w.heap.size w w') : GivesT t w (.returned (.string s)) w' := ⟨by rw [h], hb⟩
set_option maxHeartbeats 2000000 in
theorem markText (k : Nat) (w : World) (h0 : 0 < k) (h1 : k ≤ 1099511627776) : Calls Try.prog 138 #[.int .i64 k] w (GivesT (mtext k) w) := by
  go_enter Try.func138, Try.ntmps138
  go_wp2
  go_loopw [0, 3] (fun kv ov wr => ∃ (m : Nat) (out : ByteArray), kv = .int .i64 m ∧ ov = .string out ∧ out.size + m ≤ k ∧ mloop m out = mloop k ⟨#[]⟩ ∧ Below w.heap.size w wr) (fun kv _ _ => (intOf kv).toNat)
  case atStart => exact ⟨k, ⟨#[]⟩, rfl, rfl, (by show 0 + k ≤ k; omega), rfl, Below.refl _ _⟩
  case round =>
    obtain ⟨m, out, rfl, rfl, hs, hm, hb⟩ := hrel
    have HM := Lib.hid hm
    have HB := Lib.hid hb
    clear hm hb
    by_cases hlt : 0 < m
    · have hr0 : 0 ≤ (m : Int) % 10 := by omega
      have hr1 : (m : Int) % 10 ≤ 9 := by omega
      have hcv := conv1 wr (48 + (m : Int) % 10) (by omega) (by omega)
      have hsz : (byteText (48 + (m : Int) % 10)).size = 1 := rfl
      have hsz1 : (byteText (48 + (m : Int) % 10)).size ≤ 1 := by rw [hsz]; exact Nat.le_refl _
      have HN : Hid (mloop (m / 10) (byteText (48 + (m : Int) % 10) ++ out) = mloop k ⟨#[]⟩) := Lib.hid (by rw [← mloop_step out hlt]; exact HM.out)
      have HS : Hid ((byteText (48 + (m : Int) % 10) ++ out).size + m / 10 ≤ k) := Lib.hid (by rw [ByteArray.size_append, hsz]; omega)
      have hout : out.size ≤ 1099511627776 := by omega
      clear hsz
      generalize byteText (48 + (m : Int) % 10) = t at *
      go_wp2
      go_roundw
      case rel => exact ⟨m / 10, t ++ out, by go_num, rfl, HS.out, HN.out, HB.out.alloc HB.out.size _⟩
      case measure => simp [intOf]; omega
    · obtain rfl : m = 0 := by omega
      have HE : Hid (⟨#[109]⟩ ++ out = mtext k) := Lib.hid (by rw [mtext, ← HM.out, mloop_zero])
      have hout : out.size ≤ 1099511627776 := by omega
      have h109 : (⟨#[109]⟩ : ByteArray).size = 1 := rfl
      go_wp2
      go_ret
      exact GivesT.ret HE.out HB.out
end Go.Proofs.Ytmeacgpebpfpbaa
namespace Go.Proofs.Ytmeacgpebpfpbaa
open Go.RowKit
mutual
def Dat.cnt : Dat → Nat
  | .i _ => 1
  | .s _ => 1
  | .b _ => 1
  | .r ds => cntAll ds
  | .l ds => cntAll ds
def cntAll : List Dat → Nat
  | [] => 0
  | d :: ds => d.cnt + cntAll ds
end
mutual
def mkd : Dat → Int → Dat
  | .i _, z => .i z
  | .s _, z => .s (mtext z.toNat)
  | .b _, z => .b (z % 3 == 0)
  | .r ds, z => .r (mkAll ds z)
  | .l ds, z => .l (mkAll ds z)
def mkAll : List Dat → Int → List Dat
  | [], _ => []
  | d :: ds, z => mkd d z :: mkAll ds (z + d.cnt)
end
mutual
theorem mkd_width : ∀ (d : Dat) (z : Int), (mkd d z).width = d.width
  | .i _, _ => rfl
  | .s _, _ => rfl
  | .b _, _ => rfl
  | .r ds, z => by rw [mkd, Dat.width, Dat.width]; exact mkAll_width ds z
  | .l _, _ => rfl
theorem mkAll_width : ∀ (ds : List Dat) (z : Int), widthAll (mkAll ds z) = widthAll ds
  | [], _ => rfl
  | d :: ds, z => by rw [mkAll, widthAll, widthAll, mkd_width d z, mkAll_width ds]
end
theorem mkAll_len : ∀ (ds : List Dat) (z : Int), (mkAll ds z).length = ds.length
  | [], _ => rfl
  | d :: ds, z => by rw [mkAll, List.length_cons, List.length_cons, mkAll_len ds]
theorem cntAll_append : ∀ (a b : List Dat), cntAll (a ++ b) = cntAll a + cntAll b
  | [], b => by simp [cntAll]
  | x :: a, b => by rw [List.cons_append, cntAll, cntAll, cntAll_append a b]; omega
theorem mkAll_append : ∀ (a b : List Dat) (z : Int), mkAll (a ++ b) z = mkAll a z ++ mkAll b (z + cntAll a)
  | [], b, z => by simp [mkAll, cntAll]
  | x :: a, b, z => by
    rw [List.cons_append, mkAll, mkAll, mkAll_append a b, List.cons_append, cntAll]
    have e : z + (x.cnt : Int) + (cntAll a : Int) = z + ((x.cnt + cntAll a : Nat) : Int) := by omega
    rw [e]
theorem cnt_next {L : List Dat} {i : Nat} {d : Dat} (h : L[i]? = some d) : cntAll (L.take (i + 1)) = cntAll (L.take i) + d.cnt := by
  rw [List.take_add_one, h, cntAll_append]
  simp [cntAll]
theorem cnt_take_le (L : List Dat) (i : Nat) : cntAll (L.take i) ≤ cntAll L := by
  have h := cntAll_append (L.take i) (L.drop i)
  rw [List.take_append_drop] at h
  omega
theorem mkAll_at {L : List Dat} {i : Nat} {d : Dat} {z : Int} (h : L[i]? = some d) : (mkAll L z)[i]? = some (mkd d (z + cntAll (L.take i))) := by
  have hi : i < L.length := (List.getElem?_eq_some_iff.1 h).1
  have e : L = L.take i ++ d :: L.drop (i + 1) := by
    have h1 : L[i] = d := (List.getElem?_eq_some_iff.1 h).2
    rw [← h1, List.getElem_cons_drop, List.take_append_drop]
  have hl : (mkAll (L.take i) z).length = i := by rw [mkAll_len, List.length_take]; omega
  rw [show mkAll L z = mkAll (L.take i ++ d :: L.drop (i + 1)) z by rw [← e], mkAll_append, mkAll, List.getElem?_append_right (by omega), hl]
  simp
def half (L : List Dat) (z : Int) (i : Nat) : List Dat := mkAll (L.take i) z ++ L.drop i
theorem half_zero (L : List Dat) (z : Int) : half L z 0 = L := by simp [half, mkAll]
theorem half_all {L : List Dat} {z : Int} {n : Nat} (h : L.length = n) : half L z n = mkAll L z := by
  rw [half, List.take_of_length_le (by omega), List.drop_of_length_le (by omega), List.append_nil]
theorem half_at {L : List Dat} {z : Int} {i : Nat} {d : Dat} (h : L[i]? = some d) : (half L z i)[i]? = some d := by
  have hi : i < L.length := (List.getElem?_eq_some_iff.1 h).1
  have hl : (mkAll (L.take i) z).length = i := by rw [mkAll_len, List.length_take]; omega
  rw [half, List.getElem?_append_right (by omega), hl, List.getElem?_drop]
  simpa using h
theorem half_set {L : List Dat} {z : Int} {i : Nat} {d : Dat} (h : L[i]? = some d) : (half L z i).set i (mkd d (z + cntAll (L.take i))) = half L z (i + 1) := by
  have hi : i < L.length := (List.getElem?_eq_some_iff.1 h).1
  have hl : (mkAll (L.take i) z).length = i := by rw [mkAll_len, List.length_take]; omega
  have h1 : L.drop i = d :: L.drop (i + 1) := by
    have h2 : L[i] = d := (List.getElem?_eq_some_iff.1 h).2
    rw [← h2, List.getElem_cons_drop]
  rw [half, half, h1, List.set_append_right i _ (by omega), hl, Nat.sub_self, List.set_cons_zero, List.take_add_one, h, mkAll_append]
  simp [mkAll]
theorem half_width {L : List Dat} {z : Int} {i k : Nat} (h : ∀ x ∈ L, x.width = k) : ∀ x ∈ half L z i, x.width = k := by
  intro x hx
  rcases List.mem_append.1 hx with hx | hx
  · obtain ⟨j, hj, rfl⟩ := List.getElem_of_mem hx
    have hjl : j < (L.take i).length := by rw [mkAll_len] at hj; exact hj
    have h1 := mkAll_at (L := L.take i) (z := z) (i := j) (List.getElem?_eq_getElem hjl)
    rw [List.getElem?_eq_getElem hj] at h1
    rw [Option.some.inj h1, mkd_width]
    exact h _ (List.mem_of_mem_take (List.getElem_mem hjl))
  · exact h x (List.mem_of_mem_drop hx)
theorem markTextZ (z : Int) (w : World) (h0 : 0 < z) (h1 : z ≤ 1099511627776) : Calls Try.prog 138 #[.int .i64 z] w (GivesT (mtext z.toNat) w) := by
  obtain ⟨k, rfl⟩ : ∃ k : Nat, z = k := ⟨z.toNat, by omega⟩
  exact markText k w (by omega) (by omega)
end Go.Proofs.Ytmeacgpebpfpbaa
namespace Go.Proofs.Ytmeacgpebpfpbaa
open Go.RowKit
mutual
def leafs : Ty → Nat
  | .int => 1
  | .str => 1
  | .bool => 1
  | .rcd ts => leafsAll ts
  | .sl _ => 0
def leafsAll : List Ty → Nat
  | [] => 0
  | t :: ts => leafs t + leafsAll ts
end
mutual
def fewB (K : Nat) : Ty → Bool
  | .int => true
  | .str => true
  | .bool => true
  | .rcd ts => fewAll K ts
  | .sl t => decide (leafs t ≤ K) && fewB K t
def fewAll (K : Nat) : List Ty → Bool
  | [] => true
  | t :: ts => fewB K t && fewAll K ts
end
theorem cnt_sum {K m : Nat} : ∀ {ds : List Dat}, m ≤ K → (∀ x ∈ ds, x.cnt ≤ K * x.bulk + m) → cntAll ds ≤ K * (ds.length + bulkAll ds)
  | [], _, _ => by simp [cntAll]
  | d :: ds, hm, h => by
    have h1 := h d (by simp)
    have h2 := cnt_sum (ds := ds) hm (fun x hx => h x (List.mem_cons_of_mem _ hx))
    rw [cntAll, List.length_cons, bulkAll]
    have e : K * (ds.length + 1 + (d.bulk + bulkAll ds)) = K * (ds.length + bulkAll ds) + (K * d.bulk + K) := by
      rw [show ds.length + 1 + (d.bulk + bulkAll ds) = (ds.length + bulkAll ds) + (d.bulk + 1) by omega, Nat.mul_add, Nat.mul_add K d.bulk 1, Nat.mul_one]
    omega
mutual
theorem Has.few {K : Nat} : ∀ {t : Ty} {d : Dat}, fewB K t = true → Has t d → d.cnt ≤ K * d.bulk + leafs t
  | .int, _, _, h => by rw [Has] at h; obtain ⟨n, rfl, -⟩ := h; simp [Dat.cnt, leafs]
  | .str, _, _, h => by rw [Has] at h; obtain ⟨n, rfl, -⟩ := h; simp [Dat.cnt, leafs]
  | .bool, _, _, h => by rw [Has] at h; obtain ⟨n, rfl⟩ := h; simp [Dat.cnt, leafs]
  | .rcd ts, _, hk, h => by
    rw [Has] at h
    obtain ⟨ds, rfl, h⟩ := h
    rw [fewB] at hk
    rw [Dat.cnt, Dat.bulk, leafs]
    exact HasAll.few hk h
  | .sl t, _, hk, h => by
    rw [Has] at h
    obtain ⟨ds, rfl, -, h⟩ := h
    simp only [fewB, Bool.and_eq_true, decide_eq_true_eq] at hk
    rw [Dat.cnt, Dat.bulk, leafs]
    exact cnt_sum hk.1 (fun x hx => Has.few hk.2 (h x hx))
theorem HasAll.few {K : Nat} : ∀ {ts : List Ty} {ds : List Dat}, fewAll K ts = true → HasAll ts ds → cntAll ds ≤ K * bulkAll ds + leafsAll ts
  | [], _, _, h => by rw [HasAll] at h; subst h; simp [cntAll, leafsAll]
  | t :: ts, _, hk, h => by
    rw [HasAll] at h
    obtain ⟨d, ds', rfl, h1, h2⟩ := h
    simp only [fewAll, Bool.and_eq_true] at hk
    have g1 := Has.few hk.1 h1
    have g2 := HasAll.few hk.2 h2
    rw [cntAll, bulkAll, leafsAll, Nat.mul_add]
    omega
end
theorem cnt_few {K B : Nat} {t : Ty} {L : List Dat} (hk : (decide (leafs t ≤ K) && fewB K t) = true) (h : ∀ x ∈ L, Has t x) (hb : (Dat.l L).bulk ≤ B) : cntAll L ≤ K * B := by
  simp only [Bool.and_eq_true, decide_eq_true_eq] at hk
  have h1 := cnt_sum (K := K) hk.1 (fun x hx => Has.few hk.2 (h x hx))
  rw [Dat.bulk] at hb
  exact Nat.le_trans h1 (Nat.mul_le_mul_left K hb)
def rng (lo hi : Nat) : Nat → Prop := fun b => lo ≤ b ∧ b < hi
theorem Touch.low {lo hi : Nat} {W w w' : World} (h : Touch (rng lo hi) w w') (hb : Below W.heap.size W w) (hl : W.heap.size ≤ lo) : Below W.heap.size W w' := hb.trans (h.below (fun _ h1 => Nat.le_trans hl h1.1) hb.size)
theorem Box.touch {S : Nat → Prop} {b : Nat} {cs : List Value} {w w' : World} (h : Box b cs w) (ht : Touch S w w') (hb : ¬ S b) : Box b cs w' :=
  ⟨Nat.lt_of_lt_of_le h.1 ht.size, fun i v hv => (World.cell?_of_block (w := w) (a := ⟨b, i, none⟩) (ht.block b h.1 hb)).trans (h.2 i v hv)⟩
end Go.Proofs.Ytmeacgpebpfpbaa
