/- Draws of chapter 9: l9Sent. -/
import Derived.Test.YtfgijebgnkikpaaDraw9V
import Derived.Test.YtfgijebgnkikpaaTyE1
import Derived.Test.YtfgijebgnkikpaaEntV
import Derived.Deep.RegionLaw
import Derived.LoopTactic
import Derived.Lib.Hide
import Derived.Deep.QuietTactic
import Derived.BigQuiet
import Derived.Deep.RegionWith
import Derived.Handy
namespace Go.Proofs.Ytfgijebgnkikpaa
open Go.RowKit
set_option linter.unusedVariables false
set_option linter.unusedSimpArgs false
theorem FO.owns9 {E : TypeId} {lo hi : Nat} {w : World} {A : Option Addr} {n c : Nat} {L : List V} (h : FO layV E lo hi w A n c L) : Owns w (.l (L.map dOf)) [.slice A n c] (rng lo hi) := by
  obtain ⟨h1, h2, h3, h4⟩ := h
  rw [Owns]
  refine ⟨A, n, c, rfl, by rw [List.length_map]; exact h1, ?_⟩
  rcases h2.2 with ⟨-, hn⟩ | ⟨g, cap, cur, hv, hb, hgg, hnc, hcm, hcs, htk⟩
  · left
    rw [List.map_eq_nil_iff]
    exact List.eq_nil_of_length_eq_zero (by omega)
  · have hAe : A = some ⟨g, 0, none⟩ := by injection hv
    have hcap : c = cap := by injection hv
    have hW : widthAll (L.map dOf) = n * 2 := by
      rw [widthAll_of (k := 2) (fun x hx => by obtain ⟨v, -, rfl⟩ := List.mem_map.1 hx; rfl), List.length_map, h1]
    refine Or.inr ⟨g, E, cur, (fun _ => False), hAe, ⟨hb, h4 _ hAe⟩, fun b hb => hb.elim, hgg, ⟨by rw [hW, hcs]; exact Nat.mul_le_mul_right _ hnc, by omega⟩, ?_⟩
    rw [hW, show cur.toList.take (n * 2) = layV.flat L from htk]
    exact LiesAll.owns (flatAll_of (fun x hx => by obtain ⟨v, -, rfl⟩ := List.mem_map.1 hx; rfl)) (LiesAll.of_vals L)
theorem FO.nil9 {E : TypeId} (lo : Nat) (w : World) : FO layV E lo w.heap.size w none 0 0 ([] : List V) :=
  ⟨rfl, World.ownsRow_nil w lo E 2, Nat.le_refl _, fun a e => by cases e⟩
theorem l5Name9 (B g : Nat) (w : World) (hc : Cur w B g) : Calls Try.prog 94 #[.pointer (some ⟨g, 0, none⟩)] w (Str 8 B g w) := by
  go_enter Try.func94, Try.ntmps94
  go_wp2_with fail
  refine (l1Str_new B g [⟨#[103, 101, 116]⟩, ⟨#[115, 101, 116]⟩, ⟨#[97, 100, 100]⟩, ⟨#[109, 97, 107, 101]⟩, ⟨#[103, 111]⟩] 5 4 _ rfl (by decide) (by omega) (by omega) hc _ rfl _).mono ?_
  rintro e w1 ⟨s, hs, rfl, hL⟩
  go_wp2_with fail
  go_ret
  exact Str.ret (by omega) hL
/-- A message was drawn: small, its arguments a few numbers. -/
def AnySent (B g : Nat) (w : World) (e : Ending) (w' : World) : Prop :=
  ∃ (t : Int) (s : ByteArray) (A : Option Addr) (n c : Nat) (L : List V) (r v en q : Int), e = .returned (.agg #[.int .i64 t, .string s, .slice A n c, .int .i64 r, .int .i64 v, .int .i64 en, .int .i64 q]) ∧ Owns w' (.l (L.map dOf)) [.slice A n c] (rng (w.heap.size + 1) w'.heap.size) ∧ n ≤ 4 ∧ (∀ x ∈ L, SmV x) ∧ s.size ≤ 8 ∧ ((-100 ≤ t ∧ t ≤ 100) ∧ (-100 ≤ r ∧ r ≤ 100) ∧ (-100 ≤ v ∧ v ≤ 100) ∧ (-100 ≤ en ∧ en ≤ 100) ∧ (-100 ≤ q ∧ q ≤ 100)) ∧ Left B g w w'
/-- Midway: the message's box at k, its arguments' row behind it. -/
def SentSt (W : World) (B g k : Nat) (t : Int) (s : ByteArray) (r v en q : Int) (A : Option Addr) (n c : Nat) (L : List V) (w : World) : Prop :=
  Left B g W w ∧ Zb W.heap.size W.heap.size [.int .i64 0, .string ⟨#[]⟩, .slice none 0 0, .int .i64 0, .int .i64 0, .int .i64 0, .int .i64 0] w ∧ Zb W.heap.size k [.int .i64 t, .string s, .slice A n c, .int .i64 r, .int .i64 v, .int .i64 en, .int .i64 q] w ∧ FO layV 26 (k + 1) w.heap.size w A n c L ∧ (∀ x ∈ L, SmV x) ∧ (W.heap.size < k ∧ g < W.heap.size)
section
variable {W w w' : World} {B g k : Nat} {t : Int} {s : ByteArray} {r v en q : Int} {A : Option Addr} {n c : Nat} {L : List V}
theorem SentSt.left (h : SentSt W B g k t s r v en q A n c L w) : Left B g W w := h.1
theorem SentSt.turn (h : SentSt W B g k t s r v en q A n c L w) (hL : Left B g w w') : SentSt W B g k t s r v en q A n c L w' :=
  ⟨h.1.trans hL, h.2.1.turn hL.2 (by have := h.2.2.2.2.2.2; omega), h.2.2.1.turn hL.2 (by have := h.2.2.2.2.2; omega), (h.2.2.2.1.turn hL.2 (by have := h.2.2.2.2.2; omega)).more hL.2.size (Nat.le_refl _), h.2.2.2.2⟩
theorem SentSt.low (h : SentSt W B g k t s r v en q A n c L w) (hb : Below w.heap.size w w') : SentSt W B g k t s r v en q A n c L w' :=
  ⟨h.1.low hb h.1.2.size (by have := h.1.2.size; have := h.2.2.2.2.2.2; omega), h.2.1.below hb, h.2.2.1.below hb, (h.2.2.2.1.below hb).more hb.size (Nat.le_refl _), h.2.2.2.2⟩
theorem SentSt.cur (h : SentSt W B g k t s r v en q A n c L w) : Cur w B g := h.1.1
theorem SentSt.cells (h : SentSt W B g k t s r v en q A n c L w) : w.cell? ⟨k, 0, none⟩ = some (.int .i64 t) ∧ w.cell? ⟨k, 1, none⟩ = some (.string s) ∧ w.cell? ⟨k, 2, none⟩ = some (.slice A n c) ∧ w.cell? ⟨k, 3, none⟩ = some (.int .i64 r) ∧ w.cell? ⟨k, 4, none⟩ = some (.int .i64 v) ∧ w.cell? ⟨k, 5, none⟩ = some (.int .i64 en) ∧ w.cell? ⟨k, 6, none⟩ = some (.int .i64 q) ∧ ∀ j, w.frozen? ⟨k, j, none⟩ = false :=
  ⟨h.2.2.1.2.1.2 0 _ rfl, h.2.2.1.2.1.2 1 _ rfl, h.2.2.1.2.1.2 2 _ rfl, h.2.2.1.2.1.2 3 _ rfl, h.2.2.1.2.1.2 4 _ rfl, h.2.2.1.2.1.2 5 _ rfl, h.2.2.1.2.1.2 6 _ rfl, h.2.2.1.2.2⟩
end
theorem SentSt.next {W w w8 : World} {B g k : Nat} {t : Int} {s : ByteArray} {r v en q : Int} {A A8 : Option Addr} {n c c8 hi : Nat} {L : List V} {x : V} {o : Obj} (h : SentSt W B g k t s r v en q A n c L w) (hO : FO layV 26 (k + 1) w8.heap.size w8 A8 (n + 1) c8 (L ++ [x])) (hx : SmV x) (hS : Step (k + 1) hi (w.alloc o) w8) (hk : k < w.heap.size) :
    SentSt W B g k t s r v en q A8 (n + 1) c8 (L ++ [x]) (w8.setCell ⟨k, 2, none⟩ (.slice A8 (n + 1) c8)) := by
  have hb : Below (k + 1) w w8 := ((Below.refl w.heap.size w).alloc (Nat.le_refl _) o |>.mono (by omega)).trans (hS.below (Below.refl _ _) (Nat.le_refl _) (by simp; omega))
  have hgk : g < k + 1 := by have := h.2.2.2.2.2; omega
  have z := h.2.1
  have y := h.2.2.1
  refine ⟨?_, ?_, ?_, ?_, ?_, h.2.2.2.2.2⟩
  · have h1 := h.1.low (hb.mono (by have := h.2.2.2.2.2; omega : W.heap.size ≤ k + 1)) (Nat.le_refl _) h.2.2.2.2.2.2
    exact h1.low ((Below.refl W.heap.size w8).setCell (p := ⟨k, 2, none⟩) (by show W.heap.size ≤ k; have := h.2.2.2.2.2; omega) _) (Nat.le_refl _) h.2.2.2.2.2.2
  · exact ⟨z.1, ⟨by simp only [World.size_setCell]; have := hb.size; have := z.2.1.1; omega, fun i u hu => by
      rw [World.cell?_setCell_far _ _ _ _ (by show k ≠ W.heap.size; have := h.2.2.2.2.2; omega)]
      exact (hb.cell (p := ⟨W.heap.size, i, none⟩) (by show W.heap.size < k + 1; have := h.2.2.2.2.2; omega)).trans (z.2.1.2 i u hu)⟩, fun j => by
      rw [World.frozen?_setCell]
      exact (hb.frozen (p := ⟨W.heap.size, j, none⟩) (by show W.heap.size < k + 1; have := h.2.2.2.2.2; omega)).trans (z.2.2 j)⟩
  · have hbx : Box k [.int .i64 t, .string s, .slice A n c, .int .i64 r, .int .i64 v, .int .i64 en, .int .i64 q] w8 := ⟨Nat.lt_of_lt_of_le hk hb.size, fun i u hu => (hb.cell (p := ⟨k, i, none⟩) (by show k < k + 1; omega)).trans (y.2.1.2 i u hu)⟩
    refine ⟨y.1, hbx.put 2 (.slice A8 (n + 1) c8), fun j => ?_⟩
    rw [World.frozen?_setCell]
    exact (hb.frozen (p := ⟨k, j, none⟩) (by show k < k + 1; omega)).trans (y.2.2 j)
  · exact (hO.turn ((Turn.refl k w8).setCell (p := ⟨k, 2, none⟩) rfl _) (by omega)).more (by simp only [World.size_setCell]; omega) (Nat.le_refl _)
  · intro u hu
    rcases List.mem_append.1 hu with hu | hu
    · exact h.2.2.2.2.1 u hu
    · rw [List.mem_singleton.1 hu]; exact hx
theorem smInt (u : Int) : SmV (intV u) := ⟨by show (-1000000 : Int) ≤ 0; omega, by show (0 : Int) ≤ 1000000; omega, by show -1000000 ≤ u % 1000000; omega, by show u % 1000000 ≤ 1000000; omega⟩
section
variable {W w w8 : World} {B g k : Nat} {t : Int} {s : ByteArray} {r v en q : Int} {A A8 : Option Addr} {n c c8 hi : Nat} {L : List V}
theorem SentSt.fo (h : SentSt W B g k t s r v en q A n c L w) : FO layV 26 (k + 1) w.heap.size w A n c L := h.2.2.2.1
theorem SentSt.kt (h : SentSt W B g k t s r v en q A n c L w) : k < w.heap.size := h.2.2.1.2.1.1
theorem SentSt.res (h : SentSt W B g k t s r v en q A n c L w) : w.cell? ⟨W.heap.size, 0, none⟩ = some (.int .i64 0) ∧ w.cell? ⟨W.heap.size, 1, none⟩ = some (.string ⟨#[]⟩) ∧ w.cell? ⟨W.heap.size, 2, none⟩ = some (.slice none 0 0) ∧ w.cell? ⟨W.heap.size, 3, none⟩ = some (.int .i64 0) ∧ w.cell? ⟨W.heap.size, 4, none⟩ = some (.int .i64 0) ∧ w.cell? ⟨W.heap.size, 5, none⟩ = some (.int .i64 0) ∧ w.cell? ⟨W.heap.size, 6, none⟩ = some (.int .i64 0) ∧ ∀ j, w.frozen? ⟨W.heap.size, j, none⟩ = false :=
  ⟨h.2.1.2.1.2 0 _ rfl, h.2.1.2.1.2 1 _ rfl, h.2.1.2.1.2 2 _ rfl, h.2.1.2.1.2 3 _ rfl, h.2.1.2.1.2 4 _ rfl, h.2.1.2.1.2 5 _ rfl, h.2.1.2.1.2 6 _ rfl, h.2.1.2.2⟩
theorem SentSt.after {o : Obj} {x : V} (h : SentSt W B g k t s r v en q A n c L w) (hO : FO layV 26 (k + 1) w8.heap.size w8 A8 (n + 1) c8 (L ++ [x])) (hS : Step (k + 1) hi (w.alloc o) w8) (hk : k < w.heap.size) :
    w8.cell? ⟨k, 2, none⟩ = some (.slice A n c) ∧ w8.frozen? ⟨k, 2, none⟩ = false := by
  have hb : Below (k + 1) w w8 := ((Below.refl w.heap.size w).alloc (Nat.le_refl _) o |>.mono (by omega)).trans (hS.below (Below.refl _ _) (Nat.le_refl _) (by simp; omega))
  exact ⟨(hb.cell (p := ⟨k, 2, none⟩) (by show k < k + 1; omega)).trans (h.2.2.1.2.1.2 2 _ rfl), (hb.frozen (p := ⟨k, 2, none⟩) (by show k < k + 1; omega)).trans (h.2.2.1.2.2 2)⟩
theorem SentSt.done {w' : World} (h : SentSt W B g k t s r v en q A n c L w) (hn : n ≤ 4) (hs : s.size ≤ 8) (hi : (-100 ≤ t ∧ t ≤ 100) ∧ (-100 ≤ r ∧ r ≤ 100) ∧ (-100 ≤ v ∧ v ≤ 100) ∧ (-100 ≤ en ∧ en ≤ 100) ∧ (-100 ≤ q ∧ q ≤ 100)) (hb : Below W.heap.size w w') (ht : Turn W.heap.size w w') : AnySent B g W (.returned (.agg #[.int .i64 t, .string s, .slice A n c, .int .i64 r, .int .i64 v, .int .i64 en, .int .i64 q])) w' :=
  ⟨t, s, A, n, c, L, r, v, en, q, rfl, (h.fo.turn ht (by have := h.2.2.2.2.2; omega)).owns9.mono (fun b hb => ⟨by have h9 := hb.1; have := h.2.2.2.2.2; omega, by have h9 := hb.2; have := ht.size; omega⟩), hn, h.2.2.2.2.1, hs, hi, h.1.low hb (Nat.le_refl _) h.2.2.2.2.2.2⟩
end
theorem step_append_fr {P : Program} (w : World) {α : Type} (l : Lay α) {ops : Array Oper} {o : Oper} {a : Act} {K : Act → World → Prop} {Q : Exit → Act → World → Prop} {X : Prop} (hgd : o.guard = none) (s x : Operand) (t : TypeId)
    (ho : o.op = .call { callee := .builtin .append, args := #[s, x], argTypes := #[t, t] })
    (E : TypeId) (i : TypeInfo) (z : Value) (bytes : Nat) (ht : P.underlying t = some (.slice E)) (hi : P.info? E = some i) (hz : i.zero = some z)
    (hsize : i.size = l.size) (hzs : z.cells.size = l.size) (hby : i.bytes = bytes) (lo hi' : Nat) (A0 : Option Addr) (n c0 : Nat) (ys : List α) (hs : a.eval s = .slice A0 n c0) (hO : FO l E lo hi' w A0 n c0 ys)
    (A : Option Addr) (m c : Nat) (zs : List α) (hx : a.eval x = .slice A m c) (hR : FR l w A m zs) (h63 : n + m ≤ maxLen) (hbytes : (n + m) * bytes ≤ 140737488355328) (hlo : lo ≤ w.heap.size)
    (h : ∀ A' c' w', FO l E lo w'.heap.size w' A' (n + m) c' (ys ++ zs) → Step lo hi' w w' → K (a.put o.dst (.slice A' (n + m) c')) w') : if Region.wanted o (yielded ops a.tmps) = true then Oper.wp P o a w K Q else X := by
  have hw : Region.wanted o (yielded ops a.tmps) = true := by simp [Region.wanted, hgd]
  rw [if_pos hw]
  exact wp_append_fr w l s x t ho E i z bytes ht hi hz hsize hzs hby lo hi' A0 n c0 ys hs hO A m c zs hx hR h63 hbytes hlo h
set_option maxRecDepth 100000 in
set_option maxHeartbeats 8000000 in
theorem l9Sent (B g : Nat) (w : World) (hc : Cur w B g) : Calls Try.prog 80 #[.pointer (some ⟨g, 0, none⟩)] w (AnySent B g w) := by
  obtain ⟨i0, hi, hz0, hz1, hz2⟩ := info_parts infoV
  have hg := hc.lt
  have hne : w.heap.size ≠ g := by omega
  have z0 := Lib.hid (Zb.new (B := w.heap.size) w #[.int .i64 0, .string ⟨#[]⟩, .slice none 0 0, .int .i64 0, .int .i64 0, .int .i64 0, .int .i64 0] 111 (Nat.le_refl _))
  have HL0 : Hid (Left B g w (w.alloc (.cells #[.int .i64 0, .string ⟨#[]⟩, .slice none 0 0, .int .i64 0, .int .i64 0, .int .i64 0, .int .i64 0] 111))) := Lib.hid ⟨hc.alloc' _, (Turn.refl g w).alloc _⟩
  clear hc
  go_enter Try.func80, Try.ntmps80
  go_wp2_with fail
  refine (l1Below B g 4 _ (by omega) (by omega) HL0.out.1).mono ?_
  rintro e w1 ⟨t, ht0, ht1, rfl, hL⟩
  have HL1 := Lib.hid (HL0.out.trans hL)
  replace z0 := Lib.hid (z0.out.turn hL.2 hne)
  clear hL HL0
  go_wp2_with fail
  refine (l5Name9 B g _ HL1.out.1).mono ?_
  rintro e w2 ⟨s, hs, rfl, hL⟩
  have HL2 := Lib.hid (HL1.out.trans hL)
  replace z0 := Lib.hid (z0.out.turn hL.2 hne)
  clear hL HL1
  go_wp2_with fail
  refine (l1Below B g 4 _ (by omega) (by omega) HL2.out.1).mono ?_
  rintro e w3 ⟨r, hr0, hr1, rfl, hL⟩
  have HL3 := Lib.hid (HL2.out.trans hL)
  replace z0 := Lib.hid (z0.out.turn hL.2 hne)
  clear hL HL2
  go_wp2_with fail
  refine (l1Below B g 3 _ (by omega) (by omega) HL3.out.1).mono ?_
  rintro e w4 ⟨v0, hv0, hv1, rfl, hL⟩
  have HL4 := Lib.hid (HL3.out.trans hL)
  replace z0 := Lib.hid (z0.out.turn hL.2 hne)
  clear hL HL3
  go_wp2_with fail
  refine (l1Below B g 4 _ (by omega) (by omega) HL4.out.1).mono ?_
  rintro e w5 ⟨en, he0, he1, rfl, hL⟩
  have HL5 := Lib.hid (HL4.out.trans hL)
  replace z0 := Lib.hid (z0.out.turn hL.2 hne)
  clear hL HL4
  go_wp2_with fail
  refine (l1Below B g 9 _ (by omega) (by omega) HL5.out.1).mono ?_
  rintro e w6 ⟨q0, hq0, hq1, rfl, hL⟩
  have HL6 := Lib.hid (HL5.out.trans hL)
  replace z0 := Lib.hid (z0.out.turn hL.2 hne)
  clear hL HL5
  have hk6 : w.heap.size < w6.heap.size := z0.out.2.1.1
  have X0 : SentSt w B g w6.heap.size t s r (1 + v0) en (1 + q0) none 0 0 [] (w6.alloc (.cells #[.int .i64 t, .string s, .slice none 0 0, .int .i64 r, .int .i64 (1 + v0), .int .i64 en, .int .i64 (1 + q0)] 111)) :=
    ⟨⟨HL6.out.1.alloc' _, HL6.out.2.alloc _⟩, z0.out.below ((Below.refl _ _).alloc (Nat.le_refl _) _), Zb.new (B := w.heap.size) w6 #[.int .i64 t, .string s, .slice none 0 0, .int .i64 r, .int .i64 (1 + v0), .int .i64 en, .int .i64 (1 + q0)] 111 HL6.out.2.size, (FO.nil9 _ _), (fun x h => absurd h List.not_mem_nil), hk6, hg⟩
  have X := Lib.hid X0
  clear X0 z0
  go_wp2_with fail
  refine (l1Below B g 3 _ (by omega) (by omega) X.out.cur).mono ?_
  rintro e w7 ⟨x, hx0, hx1, rfl, hL⟩
  obtain ⟨y, rfl⟩ : ∃ y : Nat, x = y := ⟨x.toNat, by omega⟩
  replace X := Lib.hid (X.out.turn hL)
  clear hL HL6
  go_wp2_with fail
  go_loopw [4] (fun iv wr => ∃ (i : Nat) (A : Option Addr) (n c : Nat) (L : List V), iv = .int .i64 i ∧ n + i ≤ 3 ∧ SentSt w B g w6.heap.size t s r (1 + v0) en (1 + q0) A n c L wr) (fun iv _ => (intOf iv).toNat)
  case atStart => exact ⟨y, none, 0, 0, [], rfl, by omega, X.out⟩
  case round =>
    obtain ⟨i, A, n, c, L, rfl, hni, hX⟩ := hrel
    replace X := Lib.hid hX
    clear hX
    obtain ⟨z0, z1, z2, z3, z4, z5, z6, fz⟩ := X.out.cells
    by_cases hlt : 0 < i
    · obtain ⟨j, rfl⟩ : ∃ j, i = j + 1 := ⟨i - 1, by omega⟩
      have XD := Lib.hid (X.out.low (Below.refl _ _).drew)
      go_wp2_with fail
      go_region_law (first
        | (refine step_append_fr _ layV rfl _ _ 24 rfl 26 i0 (.agg #[.int .i64 0, .int .i64 0]) 16 Try.underlying24 hi hz0 hz1 rfl hz2 (w6.heap.size + 1) w8.heap.size A n c _ rfl (X6.out.fo.alloc _) _ 1 1 [vv] rfl (FR.one layV _ vv 26) (by unfold maxLen; omega) (by omega) (by simp; have := X6.out.kt; omega) ?_; intro A9 c9 w9 hO9 hS9; (have XN := Lib.hid (X6.out.next hO9 HSM.out hS9 X6.out.kt)); (have Y9 := Lib.hid (X6.out.after hO9 hS9 X6.out.kt)); clear hO9 hS9; (obtain ⟨y2, fy2⟩ := Y9.out))
        | (go_simp; go_at_call 48; (with_reducible refine (l1Below B g 9 _ (by omega) (by omega) XD.out.cur).mono ?_); rintro e w7 ⟨u, hu0, hu1, rfl, hL⟩; (obtain ⟨vv, hvv, hsm⟩ : ∃ vv, intV u = vv ∧ SmV vv := ⟨_, rfl, smInt u⟩); (have HVV := Lib.hid hvv); (have HSM := Lib.hid hsm); (have X5 := Lib.hid (XD.out.turn hL)); clear hL hvv hsm; (obtain ⟨a0, a1, a2, a3, a4, a5, a6, fa⟩ := X5.out.cells))
        | (go_simp; go_at_call 79; (with_reducible refine (specIntV u _).mono ?_); rintro e w8 ⟨rfl, hb⟩; rw [HVV.out]; (have X6 := Lib.hid (X5.out.low hb)); clear hb; (have F2 := fun o => (X6.out.low ((Below.refl _ _).alloc (Nat.le_refl _) o)).cells.2.2.1); (obtain ⟨b0, b1, b2, b3, b4, b5, b6, fb⟩ := X6.out.cells)))
      all_goals (
        clear XD X5
        go_wp2_with fail
        go_roundw
        case rel => exact ⟨j, A9, n + 1, c9, _, by go_num, by omega, XN.out⟩
        case measure => (simp [intOf]))
    · obtain rfl : i = 0 := by omega
      obtain ⟨q1, q2, q3, q4, q5, q6, q7, fq⟩ := X.out.res
      go_wp2_with fail
      refine bodyPost_ret (v := .agg #[.int .i64 t, .string s, .slice A n c, .int .i64 r, .int .i64 (1 + v0), .int .i64 en, .int .i64 (1 + q0)]) ?hres rfl ?hpost
      case hres => exact results_box rfl _ _ (w.heap.size) [.int .i64 t, .string s, .slice A n c, .int .i64 r, .int .i64 (1 + v0), .int .i64 en, .int .i64 (1 + q0)] _ rfl ((((((((X.out.2.1.2.1).put 0 _).put 1 _).put 2 _).put 3 _).put 4 _).put 5 _).put 6 _) Try.underlying111 rfl (by kernel_rfl)
      case hpost =>
        have lb : w.heap.size ≤ w.heap.size := Nat.le_refl _
        have le : w.heap.size = w.heap.size := rfl
        refine X.out.done (by omega) hs (by omega) ?hbb ?htt
        case hbb => exact ((((((((Below.refl w.heap.size _).setCell lb _).setCell lb _).setCell lb _).setCell lb _).setCell lb _).setCell lb _).setCell lb _)
        case htt => exact ((((((((Turn.refl w.heap.size _).setCell le _).setCell le _).setCell le _).setCell le _).setCell le _).setCell le _).setCell le _)
end Go.Proofs.Ytfgijebgnkikpaa
