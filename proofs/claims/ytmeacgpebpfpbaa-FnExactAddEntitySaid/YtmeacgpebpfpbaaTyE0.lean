/- Chapter 9's data: types, the laws' copies, comparisons and sizes. -/
import Derived.Test.YtmeacgpebpfpbaaData
import Derived.LoopTactic
import Derived.Lib.Hide
import Derived.Deep.QuietTactic
import Derived.BigQuiet
import Derived.Deep.RegionWith
import Derived.Handy
import Derived.Deep.MidRow
namespace Go.Proofs.Ytmeacgpebpfpbaa
open Go.RowKit
set_option linter.unusedVariables false
set_option linter.unusedSimpArgs false
theorem OwnsAll.nil_ (w : World) (B : Nat → Prop) : OwnsAll w [] [] B := by rw [OwnsAll]
theorem OwnsAll.consF {w : World} {d : Dat} {ds : List Dat} {c1 c2 : List Value} {B : Nat → Prop} (h : Owns w d c1 (fun _ => False)) (k : OwnsAll w ds c2 B) : OwnsAll w (d :: ds) (c1 ++ c2) B := by
  rw [OwnsAll]
  exact ⟨c1, c2, (fun _ => False), B, rfl, (fun b hb => hb.elim), (fun b hb => hb), (fun b hb _ => hb), h, k⟩
theorem OwnsAll.consI {w : World} {d : Dat} {ds : List Dat} {c1 c2 : List Value} {a b c : Nat} (h : Owns w d c1 (rng a b)) (k : OwnsAll w ds c2 (rng b c)) (h1 : a ≤ b) (h2 : b ≤ c) : OwnsAll w (d :: ds) (c1 ++ c2) (rng a c) := by
  rw [OwnsAll]
  exact ⟨c1, c2, rng a b, rng b c, rfl, (fun x hx => ⟨hx.1, by have := hx.2; omega⟩), (fun x hx => ⟨by have := hx.1; omega, hx.2⟩), (fun x hx hy => by have := hx.2; have := hy.1; omega), h, k⟩
mutual
def bareB : Ty → Bool
  | .int => true
  | .str => false
  | .bool => true
  | .rcd ts => bareAll ts
  | .sl _ => false
def bareAll : List Ty → Bool
  | [] => true
  | t :: ts => bareB t && bareAll ts
end
mutual
theorem Has.bare : ∀ {t : Ty} {d : Dat}, bareB t = true → Has t d → d.bulk = 0
  | .int, _, _, h => by rw [Has] at h; obtain ⟨n, rfl, -⟩ := h; rfl
  | .str, _, hb, _ => by simp [bareB] at hb
  | .bool, _, _, h => by rw [Has] at h; obtain ⟨n, rfl⟩ := h; rfl
  | .rcd ts, _, hb, h => by rw [Has] at h; obtain ⟨ds, rfl, h⟩ := h; rw [Dat.bulk]; exact HasAll.bare (by simpa [bareB] using hb) h
  | .sl _, _, hb, _ => by simp [bareB] at hb
theorem HasAll.bare : ∀ {ts : List Ty} {ds : List Dat}, bareAll ts = true → HasAll ts ds → bulkAll ds = 0
  | [], _, _, h => by rw [HasAll] at h; subst h; rfl
  | t :: ts, _, hb, h => by
    rw [HasAll] at h
    obtain ⟨d, ds', rfl, h1, h2⟩ := h
    simp only [bareAll, Bool.and_eq_true] at hb
    rw [bulkAll, Has.bare hb.1 h1, HasAll.bare hb.2 h2]
end
theorem bulk_none {t : Ty} (hb : bareB t = true) : ∀ {L : List Dat}, (∀ x ∈ L, Has t x) → bulkAll L = 0
  | [], _ => rfl
  | d :: L, h => by rw [bulkAll, (h d List.mem_cons_self).bare hb, bulk_none hb (fun x hx => h x (List.mem_cons_of_mem _ hx))]
theorem far_block {w : World} {g i b : Nat} {v : Value} (h : b ≠ g) : (w.setCell ⟨g, i, none⟩ v).heap[b]? = w.heap[b]? := Below.heap_setCell _ _ _ _ h
def CellsFrom (w : World) (b : Nat) : Nat → List Value → Prop
  | _, [] => True
  | k, v :: l => w.cell? ⟨b, k, none⟩ = some v ∧ CellsFrom w b (k + 1) l
theorem CellsFrom.at_ {w : World} {b : Nat} : ∀ {k : Nat} {l : List Value}, CellsFrom w b k l → ∀ i v, l[i]? = some v → w.cell? ⟨b, k + i, none⟩ = some v
  | k, [], _, i, v, h => by cases h
  | k, x :: l, h, 0, v, hv => by
    obtain rfl : x = v := by simpa using hv
    exact h.1
  | k, x :: l, h, i + 1, v, hv => by
    have := CellsFrom.at_ h.2 i v (by simpa using hv)
    rwa [show k + 1 + i = k + (i + 1) by omega] at this
theorem Box.of_cells {w : World} {b : Nat} {cs : List Value} (hb : b < w.heap.size) (h : CellsFrom w b 0 cs) : Box b cs w :=
  ⟨hb, fun i v hv => by have := h.at_ i v hv; rwa [Nat.zero_add] at this⟩
theorem Box.put {w : World} {g : Nat} {cs : List Value} (h : Box g cs w) (i : Nat) (v : Value) : Box g (cs.set i v) (w.setCell ⟨g, i, none⟩ v) := by
  refine ⟨by simpa [World.setCell] using h.1, fun j u hu => ?_⟩
  by_cases e : i = j
  · subst e
    rw [List.getElem?_set] at hu
    by_cases hl : i < cs.length
    · rw [if_pos rfl, if_pos hl] at hu
      obtain rfl := Option.some.inj hu
      exact World.cell?_setCell_same _ _ _ (h.2 i _ (List.getElem?_eq_getElem hl))
    · rw [if_pos rfl, if_neg hl] at hu
      cases hu
  · rw [List.getElem?_set_ne e] at hu
    rw [World.cell?_setCell_other (h := by intro x; injection x with _ x; exact e x)]
    exact h.2 j u hu
theorem Box.range {w : World} {g : Nat} {cs : List Value} (h : Box g cs w) : w.rangeAt g 0 cs := fun j v hv => by
  rw [Nat.zero_add]
  exact h.2 j v hv
theorem results_box {P : Program} {fn : Func} {p : Tmp} {ty : TypeId} (h : fn.results = #[.cell p ty]) (tmps : Array Value) (w : World) (g : Nat) (cs : List Value) (d : TypeDesc)
    (hp : tmps.getD p undef = .pointer (some ⟨g, 0, none⟩)) (hc : Box g cs w)
    (hu : P.underlying ty = some d) (hd : d.isRow = true) (hi : (P.info? ty).map (·.size) = some cs.length) :
    (results fn tmps).run P w = .ok (.agg cs.toArray) w := by
  have hp' : tmps[p]?.getD undef = .pointer (some ⟨g, 0, none⟩) := by simpa using hp
  simp [results, h, hp', asAddr, run_loadVar_mid w g 0 ty cs d hc.range hu hd hi]
theorem Lies.drew {w : World} {d : Dat} {cs : List Value} (h : Lies w d cs) : Lies w.drew d cs := h.below (Below.refl _ _).drew
def leftD (d : Dat) (left : Int) : Int := if left - d.bulk < 0 then -1 else left - d.bulk
theorem leftD_no {d : Dat} {left : Int} (h : left - d.bulk < 0) : -1 = leftD d left := (if_pos h).symm
theorem leftD_ok {d : Dat} {left r : Int} (h : r = left - d.bulk) (h0 : 0 ≤ left - d.bulk) : r = leftD d left := by rw [leftD, if_neg (by omega), h]
theorem bulkAll_append : ∀ (a b : List Dat), bulkAll (a ++ b) = bulkAll a + bulkAll b
  | [], b => by simp [bulkAll]
  | x :: a, b => by rw [List.cons_append, bulkAll, bulkAll, bulkAll_append a b]; omega
theorem bulk_next {L : List Dat} {i : Nat} {d : Dat} (h : L[i]? = some d) : bulkAll (L.take (i + 1)) = bulkAll (L.take i) + d.bulk := by
  rw [List.take_add_one, h, bulkAll_append]
  simp [bulkAll]
theorem bulk_take_le (L : List Dat) (i : Nat) : bulkAll (L.take i) ≤ bulkAll L := by
  have h := bulkAll_append (L.take i) (L.drop i)
  rw [List.take_append_drop] at h
  omega
def St (W : World) (l : List (Nat × List Value)) (m : List (Dat × List Value)) (w : World) : Prop := Held W l w ∧ ∀ p ∈ m, Lies w p.1 p.2
section
variable {W w w' : World} {l : List (Nat × List Value)} {m : List (Dat × List Value)}
theorem St.start (W : World) : St W [] [] W := ⟨Held.start W, fun p h => by cases h⟩
theorem St.below (h : St W l m w) (hb : Below w.heap.size w w') : St W l m w' := ⟨h.1.below hb, fun p hp => (h.2 p hp).below hb⟩
theorem St.alloc (h : St W l m w) (o : Obj) : St W l m (w.alloc o) := h.below ((Below.refl _ _).alloc (Nat.le_refl _) o)
theorem St.drew (h : St W l m w) : St W l m w.drew := h.below (Below.refl _ _).drew
theorem St.push (h : St W l m w) (cs : Array Value) (T : TypeId) : St W ((w.heap.size, cs.toList) :: l) m (w.alloc (.cells cs T)) := ⟨h.1.push cs T, (h.alloc _).2⟩
theorem St.lie (h : St W l m w) {d : Dat} {cs : List Value} (hl : Lies w d cs) : St W l ((d, cs) :: m) w := by
  refine ⟨h.1, fun p hp => ?_⟩
  rcases List.mem_cons.1 hp with rfl | hp
  · exact hl
  · exact h.2 p hp
theorem St.lies (h : St W l m w) {d : Dat} {cs : List Value} (hm : (d, cs) ∈ m) : Lies w d cs := h.2 _ hm
theorem St.two (h : St W l m w) {g : Nat} {x y : Value} (hm : (g, [x, y]) ∈ l) : w.cell? ⟨g, 0, none⟩ = some x ∧ w.cell? ⟨g, 1, none⟩ = some y := ⟨h.1.at_ hm (i := 0) rfl, h.1.at_ hm (i := 1) rfl⟩
theorem St.low (h : St W l m w) : Below W.heap.size W w := h.1.1
end
theorem leftD_cases (d : Dat) (left : Int) : leftD d left = -1 ∨ ∃ r : Int, leftD d left = r ∧ 0 ≤ r ∧ r ≤ left ∧ (d.bulk : Int) ≤ left := by
  unfold leftD
  by_cases h0 : left - d.bulk < 0
  · exact Or.inl (if_pos h0)
  · exact Or.inr ⟨left - d.bulk, if_neg h0, by omega, by omega, by omega⟩
end Go.Proofs.Ytmeacgpebpfpbaa
