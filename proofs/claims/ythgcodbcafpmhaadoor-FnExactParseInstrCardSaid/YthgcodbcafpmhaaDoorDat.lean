/- Of no program: data in memory: integers, strings, bools, records, slices of any of these, nested. -/
import Derived.Test.YthgcodbcafpmhaaDoorBox
import Derived.Deep.Slices
import Derived.Deep.Fields
import Derived.ChangeSame
import Derived.Lib.SmallJoins
namespace Go.Proofs.YthgcodbcafpmhaaDoor
open Go.RowKit Go.Joins Go.ChangeShapes Go.WideShapes Go.Deep
/-- A datum. -/
inductive Dat where
  | i (n : Int)
  | s (s : ByteArray)
  | b (b : Bool)
  | r (ds : List Dat)
  | l (ds : List Dat)
mutual
/-- How many cells it takes. -/
def Dat.width : Dat → Nat
  | .i _ => 1
  | .s _ => 1
  | .b _ => 1
  | .r ds => widthAll ds
  | .l _ => 1
def widthAll : List Dat → Nat
  | [] => 0
  | d :: ds => d.width + widthAll ds
end
mutual
/-- These cells read as this datum. -/
def Lies (w : World) : Dat → List Value → Prop
  | .i n, cs => cs = [.int .i64 n]
  | .s x, cs => cs = [.string x]
  | .b x, cs => cs = [.bool x]
  | .r ds, cs => LiesAll w ds cs
  | .l ds, cs => ∃ A n c, cs = [.slice A n c] ∧ ds.length = n ∧ (ds = [] ∨ ∃ b off xs, A = some ⟨b, off, none⟩ ∧ b < w.heap.size ∧ LiesAll w ds xs ∧ ∀ (j : Nat) (v : Value), xs[j]? = some v → w.cell? ⟨b, off + j, none⟩ = some v)
def LiesAll (w : World) : List Dat → List Value → Prop
  | [], cs => cs = []
  | d :: ds, cs => ∃ c1 c2, cs = c1 ++ c2 ∧ Lies w d c1 ∧ LiesAll w ds c2
end
section
variable {w w' : World}
mutual
theorem Lies.len : ∀ {d : Dat} {cs : List Value}, Lies w d cs → cs.length = d.width
  | .i _, _, h => by rw [Lies] at h; subst h; rfl
  | .s _, _, h => by rw [Lies] at h; subst h; rfl
  | .b _, _, h => by rw [Lies] at h; subst h; rfl
  | .r ds, cs, h => by rw [Lies] at h; rw [Dat.width]; exact LiesAll.len h
  | .l _, _, h => by rw [Lies] at h; obtain ⟨A, n, c, rfl, -⟩ := h; rfl
theorem LiesAll.len : ∀ {ds : List Dat} {cs : List Value}, LiesAll w ds cs → cs.length = widthAll ds
  | [], _, h => by rw [LiesAll] at h; subst h; rfl
  | d :: ds, _, h => by
    rw [LiesAll] at h
    obtain ⟨c1, c2, rfl, h1, h2⟩ := h
    rw [List.length_append, widthAll, Lies.len h1, LiesAll.len h2]
end
mutual
theorem Lies.below (hb : Below w.heap.size w w') : ∀ {d : Dat} {cs : List Value}, Lies w d cs → Lies w' d cs
  | .i _, _, h => by rw [Lies] at h ⊢; exact h
  | .s _, _, h => by rw [Lies] at h ⊢; exact h
  | .b _, _, h => by rw [Lies] at h ⊢; exact h
  | .r ds, cs, h => by rw [Lies] at h ⊢; exact LiesAll.below hb h
  | .l ds, _, h => by
    rw [Lies] at h ⊢
    obtain ⟨A, n, c, rfl, hn, h⟩ := h
    refine ⟨A, n, c, rfl, hn, ?_⟩
    rcases h with h | ⟨b, off, xs, e, hlt, hx, hc⟩
    · exact Or.inl h
    · exact Or.inr ⟨b, off, xs, e, Nat.lt_of_lt_of_le hlt hb.size, LiesAll.below hb hx, fun j v hj => (hb.cell (p := ⟨b, off + j, none⟩) hlt).trans (hc j v hj)⟩
theorem LiesAll.below (hb : Below w.heap.size w w') : ∀ {ds : List Dat} {cs : List Value}, LiesAll w ds cs → LiesAll w' ds cs
  | [], _, h => by rw [LiesAll] at h ⊢; exact h
  | d :: ds, _, h => by
    rw [LiesAll] at h ⊢
    obtain ⟨c1, c2, rfl, h1, h2⟩ := h
    exact ⟨c1, c2, rfl, Lies.below hb h1, LiesAll.below hb h2⟩
end
theorem LiesAll.at_ {k : Nat} : ∀ {ds : List Dat} {cs : List Value} {i : Nat} {d : Dat}, LiesAll w ds cs → (∀ x ∈ ds, x.width = k) → ds[i]? = some d → ∃ xs, Lies w d xs ∧ xs.length = k ∧ ∀ (j : Nat) (v : Value), xs[j]? = some v → cs[i * k + j]? = some v
  | [], _, _, _, _, _, h => by simp at h
  | d :: ds, cs, 0, x, h, hk, hi => by
    rw [LiesAll] at h
    obtain ⟨c1, c2, rfl, h1, h2⟩ := h
    obtain rfl : d = x := by simpa using hi
    refine ⟨c1, h1, by rw [h1.len]; exact hk _ (by simp), fun j v hj => ?_⟩
    rw [Nat.zero_mul, Nat.zero_add, List.getElem?_append_left (List.getElem?_eq_some_iff.1 hj).1]
    exact hj
  | d :: ds, cs, i + 1, x, h, hk, hi => by
    rw [LiesAll] at h
    obtain ⟨c1, c2, rfl, h1, h2⟩ := h
    obtain ⟨xs, hx, hl, hc⟩ := LiesAll.at_ (i := i) (d := x) h2 (fun y hy => hk y (List.mem_cons_of_mem _ hy)) (by simpa using hi)
    refine ⟨xs, hx, hl, fun j v hj => ?_⟩
    have e1 : c1.length = k := by rw [h1.len]; exact hk _ (by simp)
    rw [List.getElem?_append_right (by rw [e1, Nat.add_mul]; omega), e1]
    have e : (i + 1) * k + j - k = i * k + j := by rw [Nat.add_mul]; omega
    rw [e]
    exact hc j v hj
theorem LiesAll.snoc : ∀ {ds : List Dat} {cs : List Value} {d : Dat} {c : List Value}, LiesAll w ds cs → Lies w d c → LiesAll w (ds ++ [d]) (cs ++ c)
  | [], cs, d, c, h, hd => by
    rw [LiesAll] at h
    subst h
    show LiesAll w [d] c
    rw [LiesAll]
    exact ⟨c, [], (List.append_nil c).symm, hd, rfl⟩
  | x :: ds, cs, d, c, h, hd => by
    rw [LiesAll] at h
    obtain ⟨c1, c2, rfl, h1, h2⟩ := h
    show LiesAll w (x :: (ds ++ [d])) _
    rw [LiesAll]
    exact ⟨c1, c2 ++ c, List.append_assoc _ _ _, h1, h2.snoc hd⟩
/-- One element of a slice: where it lies, and what it reads as. -/
theorem Lies.elem {ds : List Dat} {A : Option Addr} {n c k i : Nat} (h : Lies w (.l ds) [.slice A n c]) (hk : ∀ x ∈ ds, x.width = k) (hi : i < n) :
    ∃ b off d xs, A = some ⟨b, off, none⟩ ∧ b < w.heap.size ∧ ds[i]? = some d ∧ Lies w d xs ∧ xs.length = k ∧ ∀ (j : Nat) (v : Value), xs[j]? = some v → w.cell? ⟨b, off + (i * k + j), none⟩ = some v := by
  rw [Lies] at h
  obtain ⟨A', n', c', e, hn, h⟩ := h
  simp only [List.cons.injEq, Value.slice.injEq, and_true] at e
  obtain ⟨rfl, rfl, rfl⟩ := e
  rcases h with rfl | ⟨b, off, xs, e, hlt, hx, hc⟩
  · simp at hn; omega
  · have hd : ds[i]? = some (ds[i]'(by omega)) := List.getElem?_eq_getElem (by omega)
    obtain ⟨ys, hy, hl, hcc⟩ := hx.at_ hk hd
    exact ⟨b, off, _, ys, e, hlt, hd, hy, hl, fun j v hj => hc _ v (hcc j v hj)⟩
theorem Lies.count {ds : List Dat} {A : Option Addr} {n c : Nat} (h : Lies w (.l ds) [.slice A n c]) : ds.length = n := by
  rw [Lies] at h
  obtain ⟨A', n', c', e, hn, -⟩ := h
  simp only [List.cons.injEq, Value.slice.injEq, and_true] at e
  obtain ⟨rfl, rfl, rfl⟩ := e
  exact hn
end
mutual
/-- How much a law counts it: letters, and elements of slices. -/
def Dat.bulk : Dat → Nat
  | .i _ => 0
  | .s x => x.size
  | .b _ => 0
  | .r ds => bulkAll ds
  | .l ds => ds.length + bulkAll ds
def bulkAll : List Dat → Nat
  | [] => 0
  | d :: ds => d.bulk + bulkAll ds
end
theorem bulk_mem : ∀ {ds : List Dat} {d : Dat}, d ∈ ds → d.bulk ≤ bulkAll ds
  | [], _, h => by cases h
  | x :: ds, d, h => by
    rw [bulkAll]
    rcases List.mem_cons.1 h with rfl | h
    · omega
    · have := bulk_mem h; omega
/-! ### Types -/
inductive Ty where
  | int
  | str
  | bool
  | rcd (ts : List Ty)
  | sl (t : Ty)
mutual
def Ty.width : Ty → Nat
  | .int => 1
  | .str => 1
  | .bool => 1
  | .rcd ts => tyWidthAll ts
  | .sl _ => 1
def tyWidthAll : List Ty → Nat
  | [] => 0
  | t :: ts => t.width + tyWidthAll ts
end
mutual
/-- A datum of this type, as a program of 64 bits can hold it. -/
def Has : Ty → Dat → Prop
  | .int, d => ∃ n, d = .i n ∧ -9223372036854775808 ≤ n ∧ n ≤ 9223372036854775807
  | .str, d => ∃ s, d = .s s ∧ s.size ≤ 9223372036854775807
  | .bool, d => ∃ b, d = .b b
  | .rcd ts, d => ∃ ds, d = .r ds ∧ HasAll ts ds
  | .sl t, d => ∃ ds, d = .l ds ∧ ds.length ≤ 9223372036854775807 ∧ ∀ x ∈ ds, Has t x
def HasAll : List Ty → List Dat → Prop
  | [], ds => ds = []
  | t :: ts, ds => ∃ d ds', ds = d :: ds' ∧ Has t d ∧ HasAll ts ds'
end
mutual
theorem Has.width : ∀ {t : Ty} {d : Dat}, Has t d → d.width = t.width
  | .int, _, h => by rw [Has] at h; obtain ⟨n, rfl, -⟩ := h; rfl
  | .str, _, h => by rw [Has] at h; obtain ⟨n, rfl, -⟩ := h; rfl
  | .bool, _, h => by rw [Has] at h; obtain ⟨n, rfl⟩ := h; rfl
  | .rcd ts, _, h => by rw [Has] at h; obtain ⟨ds, rfl, h⟩ := h; rw [Dat.width, Ty.width]; exact HasAll.width h
  | .sl _, _, h => by rw [Has] at h; obtain ⟨n, rfl, -⟩ := h; rfl
theorem HasAll.width : ∀ {ts : List Ty} {ds : List Dat}, HasAll ts ds → widthAll ds = tyWidthAll ts
  | [], _, h => by rw [HasAll] at h; subst h; rfl
  | t :: ts, _, h => by
    rw [HasAll] at h
    obtain ⟨d, ds', rfl, h1, h2⟩ := h
    rw [widthAll, tyWidthAll, Has.width h1, HasAll.width h2]
end
end Go.Proofs.YthgcodbcafpmhaaDoor
