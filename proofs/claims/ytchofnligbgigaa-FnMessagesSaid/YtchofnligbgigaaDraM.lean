/- Chapter 11's draws: wires; what a drawn message keeps. -/
import Derived.Test.YtchofnligbgigaaZxM
import Derived.LoopTactic
import Derived.Lib.Hide
import Derived.Deep.QuietTactic
import Derived.BigQuiet
import Derived.Deep.RegionWith
import Derived.Handy
namespace Go.Proofs.Ytchofnligbgigaa
open Go.RowKit
set_option linter.unusedVariables false
set_option linter.unusedSimpArgs false
theorem Code.low9 {w w' : World} {A : Option Addr} {n : Nat} (h : Code w A n) (hb : Below w.heap.size w w') : Code w' A n := by
  obtain ⟨zs, h1, h2, h3, h4⟩ := h
  exact ⟨zs, h1, h2, h3, (h4.below hb).more hb.size⟩
theorem l5Name9 (B g : Nat) (w : World) (hc : Cur w B g) : Calls Try.prog 76 #[.pointer (some ⟨g, 0, none⟩)] w (Str 8 B g w) := by
  go_enter Try.func76, Try.ntmps76
  go_wp2_with fail
  refine (l1Str_new B g [⟨#[103, 101, 116]⟩, ⟨#[115, 101, 116]⟩, ⟨#[97, 100, 100]⟩, ⟨#[109, 97, 107, 101]⟩, ⟨#[103, 111]⟩] 5 4 _ rfl (by decide) (by omega) (by omega) hc _ rfl _).mono ?_
  rintro e w1 ⟨s, hs, rfl, hL⟩
  go_wp2_with fail
  go_ret
  exact Str.ret (by omega) hL
/-- A wire was drawn. -/
def DrewW (B g : Nat) (w : World) (e : Ending) (w' : World) : Prop := ∃ k n : Int, e = .returned (.agg #[.int .i64 k, .int .i64 n]) ∧ ((-1000000 ≤ k ∧ k ≤ 1000000) ∧ (-1000000 ≤ n ∧ n ≤ 1000000)) ∧ Left B g w w'
theorem DrewW.ret {B g : Nat} {w w3 : World} (k n : Int) {p : Addr} (hp : w.heap.size ≤ p.block) {q : Addr} (hq : w.heap.size ≤ q.block) {u v : Value} (hg : g < w.heap.size) (h : Left B g w w3) (hs : (-1000000 ≤ k ∧ k ≤ 1000000) ∧ (-1000000 ≤ n ∧ n ≤ 1000000)) :
    DrewW B g w (.returned (.agg #[.int .i64 k, .int .i64 n])) ((w3.setCell p u).setCell q v) :=
  ⟨k, n, rfl, hs, h.low (((Below.refl w.heap.size w3).setCell hp u).setCell hq v) (Nat.le_refl _) hg⟩
theorem has_w {k n : Int} (h : (-1000000 ≤ k ∧ k ≤ 1000000) ∧ (-1000000 ≤ n ∧ n ≤ 1000000)) : Has tyWire (.r [.i k, .i n]) := by
  simp only [tyWire, Has, HasAll]
  exact ⟨_, rfl, _, _, rfl, ⟨k, rfl, by omega, by omega⟩, _, _, rfl, ⟨n, rfl, by omega, by omega⟩, rfl⟩
set_option maxHeartbeats 2000000 in
theorem l11Wire (B g : Nat) (w : World) (hc : Cur w B g) : Calls Try.prog 75 #[.pointer (some ⟨g, 0, none⟩)] w (DrewW B g w) := by
  have hg := hc.lt
  have hne : w.heap.size ≠ g := by omega
  have HNE := Lib.hid hne
  have hc1 := Lib.hid (hc.alloc' (.cells #[.int .i64 0, .int .i64 0] 26))
  have z0 := Lib.hid (Zb.new w #[.int .i64 0, .int .i64 0] 26 (Nat.le_refl _))
  have HT := Lib.hid ((Turn.refl g w).alloc (.cells #[.int .i64 0, .int .i64 0] 26))
  clear hc hne
  go_enter Try.func75, Try.ntmps75
  go_wp2_with fail
  refine (l1Below B g 5 _ (by omega) (by omega) hc1.out).mono ?_
  rintro e w1 ⟨x, hx0, hx1, rfl, hL1⟩
  have z1 := Lib.hid (z0.out.turn hL1.2 HNE.out)
  have HL1 : Hid (Left B g w w1) := Lib.hid ⟨hL1.1, HT.out.trans hL1.2⟩
  clear z0 hc1 hL1 HT
  by_cases h0 : x = 0
  · subst h0
    go_wp2_with fail
    refine (l1Below B g 4 _ (by omega) (by omega) HL1.out.1).mono ?_
    rintro e w2 ⟨y, hy0, hy1, rfl, hL2⟩
    have z2 := z1.out.turn hL2.2 HNE.out
    have HL2 := Lib.hid (HL1.out.trans hL2)
    clear z1 HL1 hL2
    obtain ⟨o1, o2, o3, o4⟩ := z2.two
    have q := z2.2.1.two (.int .i64 (1)) (.int .i64 (1 + y))
    have q1 := q.2 0 _ rfl
    have q2 := q.2 1 _ rfl
    clear q z2
    go_wp2_with fail
    refine bodyPost_ret (v := .agg #[.int .i64 (1), .int .i64 (1 + y)]) (by simp [results, Try.results75, go_sem, q1, q2]) rfl ?_
    exact DrewW.ret _ _ (Nat.le_refl _) (Nat.le_refl _) hg HL2.out (by omega)
  by_cases h1 : x = 1
  · subst h1
    go_wp2_with fail
    refine (l1Below B g 4 _ (by omega) (by omega) HL1.out.1).mono ?_
    rintro e w2 ⟨y, hy0, hy1, rfl, hL2⟩
    have z2 := z1.out.turn hL2.2 HNE.out
    have HL2 := Lib.hid (HL1.out.trans hL2)
    clear z1 HL1 hL2
    obtain ⟨o1, o2, o3, o4⟩ := z2.two
    have q := z2.2.1.two (.int .i64 (2)) (.int .i64 (1 + y))
    have q1 := q.2 0 _ rfl
    have q2 := q.2 1 _ rfl
    clear q z2
    go_wp2_with fail
    refine bodyPost_ret (v := .agg #[.int .i64 (2), .int .i64 (1 + y)]) (by simp [results, Try.results75, go_sem, q1, q2]) rfl ?_
    exact DrewW.ret _ _ (Nat.le_refl _) (Nat.le_refl _) hg HL2.out (by omega)
  by_cases h2 : x = 2
  · subst h2
    have z2 := z1.out
    clear z1
    obtain ⟨o1, o2, o3, o4⟩ := z2.two
    have q := z2.2.1.two (.int .i64 (3)) (.int .i64 (0))
    have q1 := q.2 0 _ rfl
    have q2 := q.2 1 _ rfl
    clear q z2
    go_wp2_with fail
    refine bodyPost_ret (v := .agg #[.int .i64 (3), .int .i64 (0)]) (by simp [results, Try.results75, go_sem, q1, q2]) rfl ?_
    exact DrewW.ret _ _ (Nat.le_refl _) (Nat.le_refl _) hg HL1.out (by omega)
  · go_wp2_with fail
    refine (l1Below B g 300 _ (by omega) (by omega) HL1.out.1).mono ?_
    rintro e w2 ⟨y, hy0, hy1, rfl, hL2⟩
    have z2 := z1.out.turn hL2.2 HNE.out
    have HL2 := Lib.hid (HL1.out.trans hL2)
    clear z1 HL1 hL2
    obtain ⟨o1, o2, o3, o4⟩ := z2.two
    have q := z2.2.1.two (.int .i64 (0)) (.int .i64 (y))
    have q1 := q.2 0 _ rfl
    have q2 := q.2 1 _ rfl
    clear q z2
    go_wp2_with fail
    refine bodyPost_ret (v := .agg #[.int .i64 (0), .int .i64 (y)]) (by simp [results, Try.results75, go_sem, q1, q2]) rfl ?_
    exact DrewW.ret _ _ (Nat.le_refl _) (Nat.le_refl _) hg HL2.out (by omega)
set_option maxHeartbeats 2000000 in
theorem l11AnyW (B g : Nat) (w : World) (hc : Cur w B g) : Calls Try.prog 70 #[.pointer (some ⟨g, 0, none⟩)] w (DrewW B g w) := by
  have hg := hc.lt
  have hne : w.heap.size ≠ g := by omega
  have HNE := Lib.hid hne
  have hc1 := Lib.hid (hc.alloc' (.cells #[.int .i64 0, .int .i64 0] 26))
  have z0 := Lib.hid (Zb.new w #[.int .i64 0, .int .i64 0] 26 (Nat.le_refl _))
  have HT := Lib.hid ((Turn.refl g w).alloc (.cells #[.int .i64 0, .int .i64 0] 26))
  clear hc hne
  go_enter Try.func70, Try.ntmps70
  go_wp2_with fail
  refine (l1Once B g 4 _ (by omega) (by omega) hc1.out).mono ?_
  rintro e w1 ⟨x, rfl, hL1⟩
  have z1 := Lib.hid (z0.out.turn hL1.2 HNE.out)
  have HL1 : Hid (Left B g w w1) := Lib.hid ⟨hL1.1, HT.out.trans hL1.2⟩
  clear z0 hc1 hL1 HT
  cases x with
  | true =>
    go_wp2_with fail
    refine (l1Int_new B g [-1, 0, 1, 2, 3, 4] 6 (-1) 4 w1 rfl (by intro z hz; simp at hz; omega) (by omega) (by omega) HL1.out.1 _ (by simp) _).mono ?_
    rintro e w2 ⟨y, hy0, hy1, rfl, hL2⟩
    have z2 := Lib.hid (z1.out.turn hL2.2 HNE.out)
    have HL2 := Lib.hid (HL1.out.trans hL2)
    clear z1 HL1 hL2
    go_wp2_with fail
    refine (l1Int_new B g [-1, 0, 1, 999999, 1000000] 5 (-1) 1000000 w2 rfl (by intro z hz; simp at hz; omega) (by omega) (by omega) HL2.out.1 _ (by simp) _).mono ?_
    rintro e w3 ⟨z, hz0, hz1, rfl, hL3⟩
    have z3 := z2.out.turn hL3.2 HNE.out
    have HL3 := Lib.hid (HL2.out.trans hL3)
    clear z2 HL2 hL3
    obtain ⟨o1, o2, o3, o4⟩ := z3.two
    have q := z3.2.1.two (.int .i64 (y)) (.int .i64 (z))
    have q1 := q.2 0 _ rfl
    have q2 := q.2 1 _ rfl
    clear q z3
    go_wp2_with fail
    refine bodyPost_ret (v := .agg #[.int .i64 (y), .int .i64 (z)]) (by simp [results, Try.results70, go_sem, q1, q2]) rfl ?_
    exact DrewW.ret _ _ (Nat.le_refl _) (Nat.le_refl _) hg HL3.out (by omega)
  | false =>
    go_wp2_with fail
    refine (l11Wire B g _ HL1.out.1).mono ?_
    rintro e w2 ⟨k, n, rfl, hkn, hL2⟩
    have z2 := z1.out.turn hL2.2 HNE.out
    have HL2 := Lib.hid (HL1.out.trans hL2)
    clear z1 HL1 hL2
    obtain ⟨o1, o2, o3, o4⟩ := z2.two
    have q := z2.2.1.two (.int .i64 (k)) (.int .i64 (n))
    have q1 := q.2 0 _ rfl
    have q2 := q.2 1 _ rfl
    clear q z2
    go_wp2_with fail
    refine bodyPost_ret (v := .agg #[.int .i64 (k), .int .i64 (n)]) (by simp [results, Try.results70, go_sem, q1, q2]) rfl ?_
    exact DrewW.ret _ _ (Nat.le_refl _) (Nat.le_refl _) hg HL2.out (by omega)
/-- What a drawn message keeps. -/
def MsOk (m : Nat) (f4 : ByteArray) (L5 : List Dat) : Prop := f4.size ≤ 8 ∧ (∀ d ∈ L5, Has tyWire d) ∧ L5.length ≤ m
theorem MsOk.snoc {L5 : List Dat} {k n : Int} (h : ∀ d ∈ L5, Has tyWire d) (hw : (-1000000 ≤ k ∧ k ≤ 1000000) ∧ (-1000000 ≤ n ∧ n ≤ 1000000)) : ∀ d ∈ L5 ++ [.r [.i k, .i n]], Has tyWire d := fun d hd => by
  rcases List.mem_append.1 hd with hd | hd
  · exact h d hd
  · rw [List.mem_singleton.1 hd]; exact has_w hw
theorem Touch.of_turn {g : Nat} {w w' : World} (h : Turn g w w') : Touch (fun b => b = g) w w' := ⟨h.os, h.tape, h.output, h.size, fun k hk ho => h.block k hk ho⟩
/-- A message that is being drawn: its box at k, its row of wires, the result's box at W's size. -/
structure DmS (W : World) (B g k : Nat) (cs : List Value) (L : List Dat) (A : Option Addr) (n c : Nat) (w : World) : Prop where
  left : Left B g W w
  r : Zx W.heap.size [.int .i64 0, .int .i64 0, .int .i64 0, .int .i64 0, .string ⟨#[]⟩, .slice none 0 0, .int .i64 0, .int .i64 0, .int .i64 0, .int .i64 0, .int .i64 0, .int .i64 0] w
  m : Zx k cs w
  G : Grow 26 2 (W.heap.size + 1) w A n c L (fun _ => False)
  ap : ∀ a, A = some a → a.block ≠ k
  ar : W.heap.size < k ∧ g < W.heap.size
section
variable {W w w' : World} {B g k : Nat} {cs : List Value} {L : List Dat} {A : Option Addr} {n c : Nat}
theorem DmS.turn (h : DmS W B g k cs L A n c w) (hL : Left B g w w') : DmS W B g k cs L A n c w' := by
  have ht := Touch.of_turn hL.2
  have ha := h.ar
  exact ⟨h.left.trans hL, h.r.touch ht (by omega), h.m.touch ht (by omega), h.G.touch ht (fun a e hx => by have h1 := (h.G.blkF a e).1; omega) (fun _ h => h.elim), h.ap, h.ar⟩
theorem DmS.low (h : DmS W B g k cs L A n c w) (hb : Below w.heap.size w w') : DmS W B g k cs L A n c w' :=
  ⟨h.left.low hb h.left.2.size (by have := h.left.2.size; have := h.ar; omega), h.r.below hb, h.m.below hb, h.G.below hb, h.ap, h.ar⟩
theorem DmS.drew (h : DmS W B g k cs L A n c w) : DmS W B g k cs L A n c w.drew := h.low (Below.refl _ _).drew
theorem DmS.put (h : DmS W B g k cs L A n c w) (j : Nat) (v : Value) : DmS W B g k (cs.set j v) L A n c (w.setCell ⟨k, j, none⟩ v) := by
  have ha := h.ar
  have ht : Touch (fun b => b = k) w (w.setCell ⟨k, j, none⟩ v) := (Touch.refl (fun b => b = k) w).setCell (p := ⟨k, j, none⟩) rfl v
  exact ⟨h.left.low ((Below.refl W.heap.size w).setCell (p := ⟨k, j, none⟩) (by show W.heap.size ≤ k; omega) v) (Nat.le_refl _) ha.2, h.r.touch ht (by omega), h.m.put j v, h.G.touch ht (fun a e hx => h.ap a e hx) (fun _ h => h.elim), h.ap, h.ar⟩
theorem DmS.cur (h : DmS W B g k cs L A n c w) : Cur w B g := h.left.1
/-- Its row grew. -/
theorem DmS.grown {A8 : Option Addr} {n8 c8 : Nat} {L8 : List Dat} {w1 w8 : World} (h : DmS W B g k cs L A n c w) (hb : Below w.heap.size w w1) (hG : Grow 26 2 (W.heap.size + 1) w8 A8 n8 c8 L8 (fun _ => False)) (hT : Touch (fun x => ∃ a, A = some a ∧ x = a.block) w1 w8) (hA : ∀ a, A8 = some a → A = some a ∨ w1.heap.size ≤ a.block) : DmS W B g k cs L8 A8 n8 c8 w8 := by
  have ha := h.ar
  have h1 := h.low hb
  have hbl : ∀ a, A = some a → W.heap.size + 1 ≤ a.block := fun a e => (h.G.blkF a e).1
  exact ⟨h1.left.low (hT.below (fun x ⟨a, e, hx⟩ => by have h2 := hbl a e; omega) h1.left.2.size) (Nat.le_refl _) ha.2, h1.r.touch hT (fun ⟨a, e, hx⟩ => by have h2 := hbl a e; omega), h1.m.touch hT (fun ⟨a, e, hx⟩ => h.ap a e hx.symm), hG, fun a e hx => (hA a e).elim (fun h2 => h.ap a h2 hx) (fun h2 => by have h3 := h1.m.lt; omega), h.ar⟩
end
/-- A message was drawn. -/
def DrewM (m : Nat) (B g : Nat) (w : World) (e : Ending) (w' : World) : Prop :=
  ∃ (f0 f1 f2 f3 : Int) (f4 : ByteArray) (L5 : List Dat) (A5 : Option Addr) (n5 c5 : Nat) (f6_0 f6_1 f7 f8_0 f8_1 f8_2 : Int), e = .returned (.agg #[.int .i64 f0, .int .i64 f1, .int .i64 f2, .int .i64 f3, .string f4, .slice A5 n5 c5, .int .i64 f6_0, .int .i64 f6_1, .int .i64 f7, .int .i64 f8_0, .int .i64 f8_1, .int .i64 f8_2]) ∧ Grow 26 2 (w.heap.size + 1) w' A5 n5 c5 L5 (fun _ => False) ∧ MsOk m f4 L5 ∧ Left B g w w'
theorem DrewM.of {W w w' : World} {m B g : Nat} (f0 f1 f2 f3 : Int) (f4 : ByteArray) (L5 : List Dat) (A5 : Option Addr) (n5 c5 : Nat) (f6_0 f6_1 f7 f8_0 f8_1 f8_2 : Int) (hG : Grow 26 2 (W.heap.size + 1) w A5 n5 c5 L5 (fun _ => False)) (hk : MsOk m f4 L5) (hL : Left B g W w) (hg : g < W.heap.size) (hT : Touch (fun b => b = W.heap.size) w w') : DrewM m B g W (.returned (.agg #[.int .i64 f0, .int .i64 f1, .int .i64 f2, .int .i64 f3, .string f4, .slice A5 n5 c5, .int .i64 f6_0, .int .i64 f6_1, .int .i64 f7, .int .i64 f8_0, .int .i64 f8_1, .int .i64 f8_2])) w' :=
  ⟨f0, f1, f2, f3, f4, L5, A5, n5, c5, f6_0, f6_1, f7, f8_0, f8_1, f8_2, rfl, hG.touch hT (fun a e hx => by have h1 := (hG.blkF a e).1; omega) (fun _ h => h.elim), hk, hL.low (hT.below (fun x h => by omega) hL.2.size) (Nat.le_refl _) hg⟩
end Go.Proofs.Ytchofnligbgigaa
