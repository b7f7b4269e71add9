/- The program's chapter 6: Ends, a method's copy. -/
import Derived.Test.YtaepconmjmcbdaaSpecS3
namespace Go.Proofs.Ytaepconmjmcbdaa
open Go.RowKit
set_option linter.unusedVariables false
set_option linter.unusedSimpArgs false
set_option maxHeartbeats 2000000 in
theorem implEnds (nm : ByteArray) (L : List Dat) (A : Option Addr) (n c : Nat) (w : World) (h : Lies w (.l L) [.slice A n c]) (ht : ∀ x ∈ L, Has tyInstr x) (hn : n ≤ 9223372036854775807) : Calls Try.prog 17 #[.agg #[.string nm, .slice A n c]] w (GivesBool (ends (.r [.s nm, .l L])) w) := by
  by_cases hz : n = 0
  · subst hz
    have hL : L = [] := List.eq_nil_of_length_eq_zero h.count
    subst hL
    clear h ht hn
    go_enter Try.func17, Try.ntmps17
    go_wp2
    go_ret
    exact GivesBool.of rfl (by go_grown)
  · obtain ⟨k, rfl⟩ : ∃ k, n = k + 1 := ⟨n - 1, by omega⟩
    have hc := h.count
    obtain ⟨b, off, d, xs, rfl, hbw, hzi, hlie, hlen, hcell⟩ := h.elem (i := k) (fun x hx => (ht x hx).width) (by omega)
    obtain ⟨f0, f1, f2, f3, f4, f5, rfl, rfl, hf5⟩ := invInstr (ht d (List.mem_of_getElem? hzi)) hlie
    have r0 : w.cell? ⟨b, off + k * 6, none⟩ = some (.int .i64 f0) := hcell 0 _ rfl
    have r0' : (w.alloc (.cells #[.string nm, .slice (some ⟨b, off, none⟩) (k + 1) c] 29)).cell? ⟨b, off + k * 6, none⟩ = some (.int .i64 f0) := (((Below.refl w.heap.size w).alloc (Nat.le_refl _) _).cell (p := ⟨b, off + k * 6, none⟩) hbw).trans r0
    have hE : (f0 == 10) = ends (.r [.s nm, .l L]) := by
      have hl : L.getLast? = some (.r [.i f0, .i f1, .i f2, .i f3, .i f4, .s f5]) := by rw [List.getLast?_eq_getElem?, hc]; exact hzi
      show _ = (match L.getLast? with | some x => decide ((insOf x).op = 10) | none => false)
      rw [hl, Bool.eq_iff_iff]
      simp only [insOf, beq_iff_eq]
      exact decide_eq_true_iff.symm
    have HE := Lib.hid hE
    clear h ht hz hc hzi hcell hlie hE r0
    have hk1 : ((k + 1 : Nat) : Int) - 1 = k := by omega
    have hk2 : (0 : Int) ≤ k := by omega
    have hk3 : (k : Int) < ((k + 1 : Nat) : Int) := by omega
    go_enter Try.func17, Try.ntmps17
    go_wp2
    go_ret
    exact GivesBool.of HE.out (by go_grown)
set_option maxRecDepth 100000 in
set_option maxHeartbeats 4000000 in
theorem implCopy (nm : ByteArray) (L : List Dat) (A : Option Addr) (n c : Nat) (w : World) (h : Lies w (.l L) [.slice A n c]) (ht : ∀ x ∈ L, Has tyInstr x) (hn : n ≤ 1099511627776) : Calls Try.prog 48 #[.agg #[.string nm, .slice A n c]] w (GivesM nm L w) := by
  obtain ⟨i0, hi, hz0, hz1, hz2⟩ := info_parts infoInstr
  have hz := Zb.new (B := w.heap.size) (w.alloc (.cells #[.string nm, .slice A n c] 29)) #[.string ⟨#[]⟩, .slice none 0 0] 29 (by simp)
  rw [World.size_alloc] at hz
  have h1 : St2 w nm A n c ((w.alloc (.cells #[.string nm, .slice A n c] 29)).alloc (.cells #[.string ⟨#[]⟩, .slice none 0 0] 29)) :=
    ⟨(Box.new w #[.string nm, .slice A n c] 29).alloc _, hz, by go_grown⟩
  have S0 := Lib.hid (h1.below (Below.refl _ _).drew)
  have K0 : Hid (∀ o, St2 w nm A n c (((w.alloc (.cells #[.string nm, .slice A n c] 29)).alloc (.cells #[.string ⟨#[]⟩, .slice none 0 0] 29)).alloc o).drew) := Lib.hid (fun o => h1.below ((Below.refl _ _).alloc (Nat.le_refl _) o).drew)
  have G0 := Lib.hid (Grow.lit0 81 6 ((w.alloc (.cells #[.string nm, .slice A n c] 29)).alloc (.cells #[.string ⟨#[]⟩, .slice none 0 0] 29)))
  simp only [World.size_alloc] at G0
  have HL := Lib.hid (h.below h1.2.2)
  have HT := Lib.hid ht
  clear h ht hz h1
  go_enter Try.func48, Try.ntmps48
  go_wp2_with fail
  go_region_held3 (fun w' => w'.cell? ⟨w.heap.size, 0, none⟩ = some (.string nm) ∧ w'.cell? ⟨w.heap.size, 1, none⟩ = some (.slice A n c))
    (first | with_reducible exact S0.out.cells.1 | with_reducible exact (K0.out _).cells.1 | with_reducible exact S1.out.cells.1 | go_keep)
    ((refine step_append_dat _ rfl _ _ 27 rfl 6 (by omega) 81 i0 _ 56 Try.underlying27 hi hz0 hz1 rfl hz2 _ _ 0 0 [] _ rfl G0.out A n c L (fun _ => False) rfl (Src.of_lies (HL.out.below ?hbb) (fun x hx => (HT.out x hx).width) (fun x hx => flatInstr (HT.out x hx))) (fun b h => h.elim) (fun a e h => h) ?h63 ?hby ?hlo ?hK; (case hbb => (exact ((Below.refl _ _).alloc (Nat.le_refl _) _).drew)); (case h63 => (unfold maxLen; omega)); (case hby => (omega)); (case hlo => (simp)); intro A8 c8 w8 hG hTc hA8; (have S1 := Lib.hid ((K0.out (.cells #[] 81)).touch hTc (fun b ⟨a, e, hb⟩ => by obtain rfl := Option.some.inj e; subst hb; simp) (by simp))); (have HG := Lib.hid hG); (obtain ⟨-, ⟨z0, z1⟩, f0, f1⟩ := S1.out.cells); (have n0 : w.heap.size ≠ w.heap.size + 1 := by omega); (have hs8 := hTc.size); clear hG hTc hA8))
  all_goals (
    go_wp2_with fail
    have q : Box (w.heap.size + 1) [.string nm, .slice A8 n c8] ((w8.setCell ⟨w.heap.size + 1, 0, none⟩ (.string nm)).setCell ⟨w.heap.size + 1, 1, none⟩ (.slice A8 n c8)) := S1.out.2.1.2.1.two _ _
    have y0 := q.2 0 _ rfl
    have y1 := q.2 1 _ rfl
    have Z := GivesM.mk_ S1.out HG.out S1.out.2.2.size (.string nm) (.slice A8 n c8)
    clear q
    generalize ((w8.setCell ⟨w.heap.size + 1, 0, none⟩ (.string nm)).setCell ⟨w.heap.size + 1, 1, none⟩ (.slice A8 n c8)) = w9 at y0 y1 Z ⊢
    have Z := Lib.hid Z
    (try simp only [Exit.inBlock, Exit.then])
    refine bodyPost_ret (v := .agg #[.string nm, .slice A8 n c8]) (by simp [results, Try.results48, go_sem, y0, y1]; try rfl) rfl ?_
    exact Z.out)
end Go.Proofs.Ytaepconmjmcbdaa
