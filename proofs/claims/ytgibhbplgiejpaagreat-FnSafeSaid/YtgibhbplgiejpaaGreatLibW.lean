/- Libraries that grow: scripts of methods of instructions, owned with their rows. -/
import Derived.Test.YtgibhbplgiejpaaGreatLibV
import Derived.Test.YtgibhbplgiejpaaGreatData
import Derived.Test.YtgibhbplgiejpaaGreatTyA
namespace Go.Proofs.YtgibhbplgiejpaaGreat
open Go.RowKit
set_option linter.unusedVariables false
set_option linter.unusedSimpArgs false
def cells6 (x : I) : List Value := [.int .i64 x.op, .int .i64 x.a, .int .i64 x.b, .int .i64 x.c, .int .i64 x.d, .string x.name]
def insE : Elt I where
  dat := datI
  own w x cs B := cs = cells6 x
  k := 6
  pos := by decide
  toOwns := fun h => by subst h; exact ownInstr
  width := fun _ => rfl
  same := fun h _ => h
  mono := fun h _ => h
def methE (lo : Nat) : Elt Meth := recE Meth.name Meth.code insE 32 lo
def scrE (lo : Nat) : Elt Scr := recE Scr.name Scr.ms (methE lo) 26 lo
def CodG (lo : Nat) (w : World) (A : Option Addr) (n c : Nat) (L : List I) (B : Nat → Prop) : Prop := GrowP insE 32 lo w A n c L B
def MetG (lo : Nat) (w : World) (A : Option Addr) (n c : Nat) (L : List Meth) (B : Nat → Prop) : Prop := GrowP (methE lo) 26 lo w A n c L B
def LibG (lo : Nat) (w : World) (A : Option Addr) (n c : Nat) (L : List Scr) (B : Nat → Prop) : Prop := GrowP (scrE lo) 37 lo w A n c L B
/-- With new blocks. -/
def more (B : Nat → Prop) (w w' : World) : Nat → Prop := fun b => B b ∨ (w.heap.size ≤ b ∧ b < w'.heap.size)
section
variable {lo n c : Nat} {w : World} {A : Option Addr} {B : Nat → Prop}
/-- The last method. -/
theorem MetG.last {L : List Meth} {m : Meth} (h : MetG lo w A n c (L ++ [m]) B) :
    ∃ (g : Nat) (A1 : Option Addr) (n1 c1 : Nat) (Bx : Nat → Prop), A = some ⟨g, 0, none⟩ ∧ n = L.length + 1 ∧ (lo ≤ g ∧ g < w.heap.size) ∧ CodG lo w A1 n1 c1 m.code Bx ∧
      (w.cell? ⟨g, L.length * 2, none⟩ = some (.string m.name) ∧ w.cell? ⟨g, L.length * 2 + 1, none⟩ = some (.slice A1 n1 c1)) ∧ (∀ j, w.frozen? ⟨g, j, none⟩ = false) ∧ (∀ b, Bx b → B b ∧ b ≠ g ∧ b < w.heap.size) ∧
      (∀ (w' : World) (A2 : Option Addr) (n2 c2 : Nat) (code : List I) (Bx' : Nat → Prop), Touch Bx w w' → CodG lo w' A2 n2 c2 code Bx' → (∀ b, Bx' b → Bx b ∨ (w.heap.size ≤ b ∧ b < w'.heap.size)) →
        MetG lo (w'.setCell ⟨g, L.length * 2 + 1, none⟩ (.slice A2 n2 c2)) A n c (L ++ [⟨m.name, code⟩]) (more B w w')) ∧ B g := by
  obtain ⟨g, cs, Bx, h1, h2, h3, h4, h5, ⟨A1, n1, c1, rfl, hG⟩, h7, h8, h9, h10, h11, h12⟩ := GrowP.last h
  refine ⟨g, A1, n1, c1, Bx, h1, h2, ⟨h4, h5⟩, hG, ⟨h8 0 _ rfl, h8 1 _ rfl⟩, h9, h10, fun w' A2 n2 c2 code Bx' ht hC hB => ?_, h3⟩
  exact h12 w' ⟨m.name, code⟩ 1 (.slice A2 n2 c2) Bx' ht (show 1 < 2 by decide) ⟨A2, n2, c2, rfl, hC⟩ hB
/-- The last script. -/
theorem LibG.last {L : List Scr} {s : Scr} (h : LibG lo w A n c (L ++ [s]) B) :
    ∃ (g : Nat) (A1 : Option Addr) (n1 c1 : Nat) (Bx : Nat → Prop), A = some ⟨g, 0, none⟩ ∧ n = L.length + 1 ∧ (lo ≤ g ∧ g < w.heap.size) ∧ MetG lo w A1 n1 c1 s.ms Bx ∧
      (w.cell? ⟨g, L.length * 2, none⟩ = some (.string s.name) ∧ w.cell? ⟨g, L.length * 2 + 1, none⟩ = some (.slice A1 n1 c1)) ∧ (∀ j, w.frozen? ⟨g, j, none⟩ = false) ∧ (∀ b, Bx b → B b ∧ b ≠ g ∧ b < w.heap.size) ∧
      (∀ (w' : World) (ms : List Meth) (Bx' : Nat → Prop), Touch Bx w w' → MetG lo w' A1 n1 c1 ms Bx' → (∀ b, Bx' b → Bx b ∨ (w.heap.size ≤ b ∧ b < w'.heap.size)) → LibG lo w' A n c (L ++ [⟨s.name, ms⟩]) (more B w w')) ∧
      (∀ (w' : World) (A2 : Option Addr) (n2 c2 : Nat) (ms : List Meth) (Bx' : Nat → Prop), Touch Bx w w' → MetG lo w' A2 n2 c2 ms Bx' → (∀ b, Bx' b → Bx b ∨ (w.heap.size ≤ b ∧ b < w'.heap.size)) →
        LibG lo (w'.setCell ⟨g, L.length * 2 + 1, none⟩ (.slice A2 n2 c2)) A n c (L ++ [⟨s.name, ms⟩]) (more B w w')) ∧ B g := by
  obtain ⟨g, cs, Bx, h1, h2, h3, h4, h5, ⟨A1, n1, c1, rfl, hG⟩, h7, h8, h9, h10, h11, h12⟩ := GrowP.last h
  refine ⟨g, A1, n1, c1, Bx, h1, h2, ⟨h4, h5⟩, hG, ⟨h8 0 _ rfl, h8 1 _ rfl⟩, h9, h10, fun w' ms Bx' ht hC hB => ?_, fun w' A2 n2 c2 ms Bx' ht hC hB => ?_, h3⟩
  · exact h11 w' ⟨s.name, ms⟩ Bx' ht ⟨A1, n1, c1, rfl, hC⟩ hB
  · exact h12 w' ⟨s.name, ms⟩ 1 (.slice A2 n2 c2) Bx' ht (show 1 < 2 by decide) ⟨A2, n2, c2, rfl, hC⟩ hB
theorem newScr (lo : Nat) (nm : ByteArray) (w : World) : (scrE lo).own w ⟨nm, []⟩ [.string nm, .slice none 0 0] (fun _ => False) := recE_new (x := (⟨nm, []⟩ : Scr)) rfl w
theorem newMeth (lo : Nat) (nm : ByteArray) (w : World) : (methE lo).own w ⟨nm, []⟩ [.string nm, .slice none 0 0] (fun _ => False) := recE_new (x := (⟨nm, []⟩ : Meth)) rfl w
theorem newIns (x : I) (w : World) : insE.own w x (cells6 x) (fun _ => False) := rfl
theorem Rd.litAt (w : World) (C : Array Value) (E : TypeId) (k : Nat) (hk : w.heap.size = k) : Rd (w.alloc (.cells C E)) (w.alloc (.cells C E)).heap.size (some ⟨k, 0, none⟩) C.toList := by
  subst hk
  refine Or.inr ⟨w.heap.size, 0, rfl, by simp, fun j u hj => ?_⟩
  rw [Nat.zero_add, cell_of_row _ w.heap.size j C E (0, 0) (by show (w.heap.push _)[w.heap.size]? = _; simp)]
  simpa using hj
theorem LibG.owns {L : List Scr} (h : LibG lo w A n c L B) : Owns w (.l (L.map datS)) [.slice A n c] B := GrowP.owns h
theorem LibG.count {L : List Scr} (h : LibG lo w A n c L B) : L.length = n := GrowP.count h
theorem MetG.count {L : List Meth} (h : MetG lo w A n c L B) : L.length = n := GrowP.count h
theorem CodG.count {L : List I} (h : CodG lo w A n c L B) : L.length = n := GrowP.count h
theorem LibG.below {w' : World} {L : List Scr} (h : LibG lo w A n c L B) (hb : Below w.heap.size w w') : LibG lo w' A n c L B := GrowP.below h hb
theorem MetG.below {w' : World} {L : List Meth} (h : MetG lo w A n c L B) (hb : Below w.heap.size w w') : MetG lo w' A n c L B := GrowP.below h hb
theorem CodG.below {w' : World} {L : List I} (h : CodG lo w A n c L B) (hb : Below w.heap.size w w') : CodG lo w' A n c L B := GrowP.below h hb
theorem LibG.mono {B' : Nat → Prop} {L : List Scr} (h : LibG lo w A n c L B) (hB : ∀ b, B b → B' b) : LibG lo w A n c L B' := GrowP.mono h hB
theorem MetG.mono {B' : Nat → Prop} {L : List Meth} (h : MetG lo w A n c L B) (hB : ∀ b, B b → B' b) : MetG lo w A n c L B' := GrowP.mono h hB
end
/-! ### How much there is, and of which type -/
/-- No more than k of each. -/
def Few (k : Nat) (L : List Scr) : Prop := L.length ≤ k ∧ ∀ s ∈ L, s.ms.length ≤ k ∧ ∀ m ∈ s.ms, m.code.length ≤ k
def FewM (k : Nat) (L : List Meth) : Prop := L.length ≤ k ∧ ∀ m ∈ L, m.code.length ≤ k
/-- All is of its type; names of at most q bytes. -/
def Fit (q : Nat) (L : List Scr) : Prop := ∀ s ∈ L, s.name.size ≤ q ∧ ∀ m ∈ s.ms, m.name.size ≤ q ∧ ∀ x ∈ m.code, isI x = true
theorem mem_modLast {α : Type} {f : α → α} : ∀ {L : List α} {y : α}, y ∈ modLast f L → y ∈ L ∨ ∃ x ∈ L, y = f x
  | [], y, h => by cases h
  | [x], y, h => by
    rw [show modLast f [x] = [f x] from rfl, List.mem_singleton] at h
    exact Or.inr ⟨x, by simp, h⟩
  | x :: z :: L, y, h => by
    rw [show modLast f (x :: z :: L) = x :: modLast f (z :: L) from rfl] at h
    rcases List.mem_cons.1 h with rfl | h
    · exact Or.inl (by simp)
    · rcases mem_modLast h with h | ⟨u, hu, e⟩
      · exact Or.inl (List.mem_cons_of_mem _ h)
      · exact Or.inr ⟨u, List.mem_cons_of_mem _ hu, e⟩
theorem len_modLast {α : Type} {f : α → α} : ∀ {L : List α}, (modLast f L).length = L.length
  | [] => rfl
  | [x] => rfl
  | x :: z :: L => by
    rw [show modLast f (x :: z :: L) = x :: modLast f (z :: L) from rfl, List.length_cons, len_modLast]
    rfl
theorem putM_few {k : Nat} {L : List Meth} (h : FewM k L) (l : List UInt8) : FewM (k + 1) (putM l L) := by
  unfold putM
  split
  · refine ⟨by rw [List.length_append]; have := h.1; simp; omega, fun m hm => ?_⟩
    rcases List.mem_append.1 hm with hm | hm
    · exact Nat.le_succ_of_le (h.2 m hm)
    · rw [List.mem_singleton] at hm; subst hm; exact Nat.zero_le _
  · split
    · exact ⟨Nat.le_succ_of_le h.1, fun m hm => Nat.le_succ_of_le (h.2 m hm)⟩
    · rename_i x hx
      refine ⟨by rw [len_modLast]; exact Nat.le_succ_of_le h.1, fun m hm => ?_⟩
      rcases mem_modLast hm with hm | ⟨y, hy, rfl⟩
      · exact Nat.le_succ_of_le (h.2 m hm)
      · have := h.2 y hy
        show (y.code ++ [x]).length ≤ _
        rw [List.length_append]; simp; omega
theorem lineP_few {k : Nat} {L : List Scr} (h : Few k L) (l : List UInt8) : Few (k + 1) (lineP L l) := by
  unfold lineP
  split
  · refine ⟨by rw [List.length_append]; have := h.1; simp; omega, fun s hs => ?_⟩
    rcases List.mem_append.1 hs with hs | hs
    · exact ⟨Nat.le_succ_of_le (h.2 s hs).1, fun m hm => Nat.le_succ_of_le ((h.2 s hs).2 m hm)⟩
    · rw [List.mem_singleton] at hs; subst hs; exact ⟨Nat.zero_le _, fun m hm => by cases hm⟩
  · refine ⟨by rw [len_modLast]; exact Nat.le_succ_of_le h.1, fun s hs => ?_⟩
    rcases mem_modLast hs with hs | ⟨y, hy, rfl⟩
    · exact ⟨Nat.le_succ_of_le (h.2 s hs).1, fun m hm => Nat.le_succ_of_le ((h.2 s hs).2 m hm)⟩
    · exact putM_few (h.2 y hy) l
theorem drop_size (l : List UInt8) {q : Nat} (h : l.length ≤ q) : (⟨(l.drop 7).toArray⟩ : ByteArray).size ≤ q := by
  show (l.drop 7).toArray.size ≤ q
  rw [List.size_toArray, List.length_drop]; omega
theorem putM_fit {q : Nat} {L : List Meth} (h : ∀ m ∈ L, m.name.size ≤ q ∧ ∀ x ∈ m.code, isI x = true) {l : List UInt8} (hl : l.length ≤ q) : ∀ m ∈ putM l L, m.name.size ≤ q ∧ ∀ x ∈ m.code, isI x = true := by
  unfold putM
  split
  · intro m hm
    rcases List.mem_append.1 hm with hm | hm
    · exact h m hm
    · rw [List.mem_singleton] at hm; subst hm; exact ⟨drop_size l hl, fun x hx => by cases hx⟩
  · split
    · exact h
    · rename_i x hx
      intro m hm
      rcases mem_modLast hm with hm | ⟨y, hy, rfl⟩
      · exact h m hm
      · refine ⟨(h y hy).1, fun z hz => ?_⟩
        rcases List.mem_append.1 hz with hz | hz
        · exact (h y hy).2 z hz
        · rw [List.mem_singleton] at hz; subst hz; exact (parse_iff.1 hx).1
theorem lineP_fit {q : Nat} {L : List Scr} (h : Fit q L) {l : List UInt8} (hl : l.length ≤ q) : Fit q (lineP L l) := by
  unfold lineP
  split
  · intro s hs
    rcases List.mem_append.1 hs with hs | hs
    · exact h s hs
    · rw [List.mem_singleton] at hs; subst hs; exact ⟨drop_size l hl, fun x hx => by cases hx⟩
  · intro s hs
    rcases mem_modLast hs with hs | ⟨y, hy, rfl⟩
    · exact h s hs
    · exact ⟨(h y hy).1, putM_fit (h y hy).2 hl⟩
theorem has_ins {x : I} (h : isI x = true) (hn : x.name.size ≤ 9223372036854775807) : Has tyInstr (datI x) := by
  have hp := isI_parts h
  have ho := isI_op h
  simp only [tyInstr, Has, HasAll, datI]
  exact ⟨_, rfl, _, _, rfl, ⟨_, rfl, by omega, by omega⟩, _, _, rfl, ⟨_, rfl, by omega, by omega⟩, _, _, rfl, ⟨_, rfl, by omega, by omega⟩, _, _, rfl, ⟨_, rfl, by omega, by omega⟩, _, _, rfl, ⟨_, rfl, by omega, by omega⟩, _, _, rfl, ⟨_, rfl, hn⟩, rfl⟩
theorem fit_has {q k : Nat} {L : List Scr} (h : Fit q L) (hk : Few k L) (hq : q ≤ 9223372036854775807) (hkk : k ≤ 9223372036854775807) : ∀ d ∈ L.map datS, Has tyScript d := by
  intro d hd
  obtain ⟨s, hs, rfl⟩ := List.mem_map.1 hd
  obtain ⟨h1, h2⟩ := h s hs
  obtain ⟨k1, k2⟩ := hk.2 s hs
  simp only [tyScript, Has, HasAll, datS]
  refine ⟨_, rfl, _, _, rfl, ⟨_, rfl, by omega⟩, _, _, rfl, ⟨_, rfl, by rw [List.length_map]; omega, fun d hd => ?_⟩, rfl⟩
  obtain ⟨m, hm, rfl⟩ := List.mem_map.1 hd
  obtain ⟨h3, h4⟩ := h2 m hm
  have k3 := k2 m hm
  simp only [tyMethod, Has, HasAll, datM]
  refine ⟨_, rfl, _, _, rfl, ⟨_, rfl, by omega⟩, _, _, rfl, ⟨_, rfl, by rw [List.length_map]; omega, fun d hd => ?_⟩, rfl⟩
  obtain ⟨x, hx, rfl⟩ := List.mem_map.1 hd
  exact has_ins (h4 x hx) (Nat.le_trans (isI_name (h4 x hx)) (by decide))
end Go.Proofs.YtgibhbplgiejpaaGreat
