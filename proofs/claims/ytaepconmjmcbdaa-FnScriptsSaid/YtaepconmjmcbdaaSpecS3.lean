/- The reference's chapter 6: a method's copy. -/
import Derived.Test.YtaepconmjmcbdaaSpecS2
import Derived.Test.YtaepconmjmcbdaaAppD
import Derived.Deep.RegionHeld3
namespace Go.Proofs.Ytaepconmjmcbdaa
open Go.RowKit
set_option linter.unusedVariables false
set_option linter.unusedSimpArgs false
theorem Grow.lit0 (E : TypeId) (k : Nat) (w : World) : Grow E k w.heap.size (w.alloc (.cells #[] E)).drew (some ⟨w.heap.size, 0, none⟩) 0 0 [] (fun _ => False) := by
  refine ⟨[], ⟨by simp, Or.inr ⟨w.heap.size, 0, #[], rfl, Nat.le_refl _, ?_, Nat.le_refl _, Nat.zero_le _, by simp, by simp⟩⟩, (by rw [OwnsAll]), rfl, (fun x hx => by cases hx), (fun a e => ⟨fun h => h, ?_⟩), (fun b hb => hb.elim)⟩
  · show (w.heap.push _)[w.heap.size]? = _
    simp
  · obtain rfl := Option.some.inj e
    simp
/-- The argument's box and the result's. -/
def St2 (W : World) (nm : ByteArray) (A : Option Addr) (n c : Nat) (w : World) : Prop := Box W.heap.size [.string nm, .slice A n c] w ∧ Zb W.heap.size (W.heap.size + 1) [.string ⟨#[]⟩, .slice none 0 0] w ∧ Below W.heap.size W w
section
variable {W w w' : World} {nm : ByteArray} {A : Option Addr} {n c : Nat}
theorem St2.below (h : St2 W nm A n c w) (hb : Below w.heap.size w w') : St2 W nm A n c w' := ⟨h.1.below hb, h.2.1.below hb, h.2.2.trans (hb.mono h.2.2.size)⟩
theorem St2.touch {S : Nat → Prop} (h : St2 W nm A n c w) (ht : Touch S w w') (hS : ∀ b, S b → W.heap.size + 2 ≤ b) (hs : W.heap.size + 2 ≤ w.heap.size) : St2 W nm A n c w' := by
  have hb : Below (W.heap.size + 2) w w' := ht.below hS hs
  refine ⟨⟨Nat.lt_of_lt_of_le h.1.1 ht.size, fun i v hv => ?_⟩, ⟨h.2.1.1, ⟨Nat.lt_of_lt_of_le h.2.1.2.1.1 ht.size, fun i v hv => ?_⟩, fun j => ?_⟩, h.2.2.trans (hb.mono (by omega))⟩
  · exact (hb.cell (p := ⟨W.heap.size, i, none⟩) (by show W.heap.size < _; omega)).trans (h.1.2 i v hv)
  · exact (hb.cell (p := ⟨W.heap.size + 1, i, none⟩) (by show W.heap.size + 1 < _; omega)).trans (h.2.1.2.1.2 i v hv)
  · exact (hb.frozen (p := ⟨W.heap.size + 1, j, none⟩) (by show W.heap.size + 1 < _; omega)).trans (h.2.1.2.2 j)
theorem St2.cells (h : St2 W nm A n c w) : (w.cell? ⟨W.heap.size, 0, none⟩ = some (.string nm) ∧ w.cell? ⟨W.heap.size, 1, none⟩ = some (.slice A n c)) ∧ (w.cell? ⟨W.heap.size + 1, 0, none⟩ = some (.string ⟨#[]⟩) ∧ w.cell? ⟨W.heap.size + 1, 1, none⟩ = some (.slice none 0 0)) ∧ (w.frozen? ⟨W.heap.size + 1, 0, none⟩ = false ∧ w.frozen? ⟨W.heap.size + 1, 1, none⟩ = false) :=
  ⟨⟨h.1.2 0 _ rfl, h.1.2 1 _ rfl⟩, ⟨h.2.1.2.1.2 0 _ rfl, h.2.1.2.1.2 1 _ rfl⟩, h.2.1.2.2 0, h.2.1.2.2 1⟩
end
/-- A method comes back, its code owned. -/
def GivesM (nm : ByteArray) (L : List Dat) (w : World) (e : Ending) (w' : World) : Prop := ∃ A n c, e = .returned (.agg #[.string nm, .slice A n c]) ∧ Owns w' (.l L) [.slice A n c] (fun b => w.heap.size ≤ b ∧ b < w'.heap.size) ∧ Below w.heap.size w w'
theorem GivesM.mk_ {W w8 : World} {nm : ByteArray} {A A8 : Option Addr} {n c m c8 : Nat} {E : TypeId} {L : List Dat} (h : St2 W nm A n c w8) (G : Grow E 6 (W.heap.size + 1 + 1) w8 A8 (0 + m) c8 ([] ++ L) (fun _ => False ∨ False)) (hs : W.heap.size ≤ w8.heap.size) (u v : Value) : GivesM nm L W (.returned (.agg #[.string nm, .slice A8 m c8])) ((w8.setCell ⟨W.heap.size + 1, 0, none⟩ u).setCell ⟨W.heap.size + 1, 1, none⟩ v) := by
  rw [Nat.zero_add, List.nil_append] at G
  have hlo : ∀ a, A8 = some a → W.heap.size + 2 ≤ a.block ∧ a.block < w8.heap.size := fun a e => by
    subst e
    have := G.own a.block (by simp [Value.ownBlock])
    exact ⟨this.1, this.2.1⟩
  have ht : Touch (fun b => b = W.heap.size + 1) w8 ((w8.setCell ⟨W.heap.size + 1, 0, none⟩ u).setCell ⟨W.heap.size + 1, 1, none⟩ v) := ((Touch.refl (fun b => b = W.heap.size + 1) w8).setCell (p := ⟨W.heap.size + 1, 0, none⟩) rfl u).setCell (p := ⟨W.heap.size + 1, 1, none⟩) rfl v
  refine ⟨A8, m, c8, rfl, (G.owns.same fun b hb hlt => ht.block b hlt ?_).mono ?_, h.2.2.trans (ht.below (fun b e => by subst e; omega) hs)⟩
  · rcases hb with ⟨a, e, rfl⟩ | hb | hb
    · have := (hlo a e).1
      show ¬ _ = _
      omega
    · exact hb.elim
    · exact hb.elim
  · intro b hb
    rcases hb with ⟨a, e, rfl⟩ | hb | hb
    · have := hlo a e
      have := ht.size
      omega
    · exact hb.elim
    · exact hb.elim
theorem flatInstr {d : Dat} (h : Has tyInstr d) : d.flat = true := by
  simp only [tyInstr, Has, HasAll] at h
  obtain ⟨ds, rfl, d0, _, rfl, ⟨f0, rfl, -, -⟩, d1, _, rfl, ⟨f1, rfl, -, -⟩, d2, _, rfl, ⟨f2, rfl, -, -⟩, d3, _, rfl, ⟨f3, rfl, -, -⟩, d4, _, rfl, ⟨f4, rfl, -, -⟩, d5, _, rfl, ⟨f5, rfl, -⟩, rfl⟩ := h
  rfl
set_option maxRecDepth 100000 in
set_option maxHeartbeats 4000000 in
theorem specCopy (nm : ByteArray) (L : List Dat) (A : Option Addr) (n c : Nat) (w : World) (h : Lies w (.l L) [.slice A n c]) (ht : ∀ x ∈ L, Has tyInstr x) (hn : n ≤ 1099511627776) : Calls Try.prog 50 #[.agg #[.string nm, .slice A n c]] w (GivesM nm L w) := by
  obtain ⟨i0, hi, hz0, hz1, hz2⟩ := info_parts infoInstr
  have hz := Zb.new (B := w.heap.size) (w.alloc (.cells #[.string nm, .slice A n c] 29)) #[.string ⟨#[]⟩, .slice none 0 0] 29 (by simp)
  rw [World.size_alloc] at hz
  have h1 : St2 w nm A n c ((w.alloc (.cells #[.string nm, .slice A n c] 29)).alloc (.cells #[.string ⟨#[]⟩, .slice none 0 0] 29)) :=
    ⟨(Box.new w #[.string nm, .slice A n c] 29).alloc _, hz, by go_grown⟩
  have S0 := Lib.hid (h1.below (Below.refl _ _).drew)
  have K0 : Hid (∀ o, St2 w nm A n c (((w.alloc (.cells #[.string nm, .slice A n c] 29)).alloc (.cells #[.string ⟨#[]⟩, .slice none 0 0] 29)).alloc o).drew) := Lib.hid (fun o => h1.below ((Below.refl _ _).alloc (Nat.le_refl _) o).drew)
  have G0 := Lib.hid (Grow.lit0 81 6 ((w.alloc (.cells #[.string nm, .slice A n c] 29)).alloc (.cells #[.string ⟨#[]⟩, .slice none 0 0] 29)))
  simp only [World.size_alloc] at G0
  have HL := Lib.hid (h.below h1.2.2)
  have HT := Lib.hid ht
  clear h ht hz h1
  go_enter Try.func50, Try.ntmps50
  go_wp2_with fail
  go_region_held3 (fun w' => w'.cell? ⟨w.heap.size, 0, none⟩ = some (.string nm) ∧ w'.cell? ⟨w.heap.size, 1, none⟩ = some (.slice A n c))
    (first | with_reducible exact S0.out.cells.1 | with_reducible exact (K0.out _).cells.1 | with_reducible exact S1.out.cells.1 | go_keep)
    ((refine step_append_dat _ rfl _ _ 27 rfl 6 (by omega) 81 i0 _ 56 Try.underlying27 hi hz0 hz1 rfl hz2 _ _ 0 0 [] _ rfl G0.out A n c L (fun _ => False) rfl (Src.of_lies (HL.out.below ?hbb) (fun x hx => (HT.out x hx).width) (fun x hx => flatInstr (HT.out x hx))) (fun b h => h.elim) (fun a e h => h) ?h63 ?hby ?hlo ?hK; (case hbb => (exact ((Below.refl _ _).alloc (Nat.le_refl _) _).drew)); (case h63 => (unfold maxLen; omega)); (case hby => (omega)); (case hlo => (simp)); intro A8 c8 w8 hG hTc hA8; (have S1 := Lib.hid ((K0.out (.cells #[] 81)).touch hTc (fun b ⟨a, e, hb⟩ => by obtain rfl := Option.some.inj e; subst hb; simp) (by simp))); (have HG := Lib.hid hG); (obtain ⟨-, ⟨z0, z1⟩, f0, f1⟩ := S1.out.cells); (have n0 : w.heap.size ≠ w.heap.size + 1 := by omega); (have hs8 := hTc.size); clear hG hTc hA8))
  all_goals (
    go_wp2_with fail
    have q : Box (w.heap.size + 1) [.string nm, .slice A8 n c8] ((w8.setCell ⟨w.heap.size + 1, 0, none⟩ (.string nm)).setCell ⟨w.heap.size + 1, 1, none⟩ (.slice A8 n c8)) := S1.out.2.1.2.1.two _ _
    have y0 := q.2 0 _ rfl
    have y1 := q.2 1 _ rfl
    have Z := GivesM.mk_ S1.out HG.out S1.out.2.2.size (.string nm) (.slice A8 n c8)
    clear q
    generalize ((w8.setCell ⟨w.heap.size + 1, 0, none⟩ (.string nm)).setCell ⟨w.heap.size + 1, 1, none⟩ (.slice A8 n c8)) = w9 at y0 y1 Z ⊢
    have Z := Lib.hid Z
    (try simp only [Exit.inBlock, Exit.then])
    refine bodyPost_ret (v := .agg #[.string nm, .slice A8 n c8]) (by simp [results, Try.results50, go_sem, y0, y1]; try rfl) rfl ?_
    exact Z.out)
end Go.Proofs.Ytaepconmjmcbdaa
