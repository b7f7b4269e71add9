/- The program's ParseInstr. -/
import Derived.Test.YthgcodbcafpmhaaDoorPrs
namespace Go.Proofs.YthgcodbcafpmhaaDoor
open Go.RowKit
set_option linter.unusedVariables false
set_option linter.unusedSimpArgs false
theorem Box.set {b j : Nat} {cs : List Value} {w : World} (h : Box b cs w) (hj : j < cs.length) (u : Value) : Box b (cs.set j u) (w.setCell ⟨b, j, none⟩ u) := by
  refine ⟨by simpa [World.setCell] using h.1, fun i v hv => ?_⟩
  rw [List.getElem?_set] at hv
  by_cases e : j = i
  · subst e
    rw [if_pos rfl, if_pos hj] at hv
    obtain rfl := Option.some.inj hv
    exact World.cell?_setCell_same _ _ _ (h.2 j _ (List.getElem?_eq_getElem hj))
  · rw [if_neg e] at hv
    rw [World.cell?_setCell_other (h := fun e' => e (by injection e'))]
    exact h.2 i v hv
theorem Zb.set {B b j : Nat} {cs : List Value} {w : World} (h : Zb B b cs w) (hj : j < cs.length) (u : Value) : Zb B b (cs.set j u) (w.setCell ⟨b, j, none⟩ u) :=
  ⟨h.1, h.2.1.set hj u, fun i => by rw [World.frozen?_setCell]; exact h.2.2 i⟩
theorem Zb.far {B b g j : Nat} {cs : List Value} {w : World} (h : Zb B b cs w) (hg : g ≠ b) (u : Value) : Zb B b cs (w.setCell ⟨g, j, none⟩ u) :=
  ⟨h.1, h.2.1.far hg u, fun i => by rw [World.frozen?_setCell]; exact h.2.2 i⟩
theorem Zb.iterAt {B b k : Nat} {cs : List Value} {w : World} (h : Zb B b cs w) (hk : b ≠ k) (s : ByteArray) (pos : Nat) : Zb B b cs (w.iterAt k s pos) :=
  ⟨h.1, h.2.1.iterAt hk s pos, fun i => (World.frozen?_of_block (w := w) (a := ⟨b, i, none⟩) (Lib.iterAt_other w k b s pos hk)).trans (h.2.2 i)⟩
def zero6 : List Value := [.int .i64 0, .int .i64 0, .int .i64 0, .int .i64 0, .int .i64 0, .string ⟨#[]⟩]
def four (x : I) : List Value := [.int .i64 x.a, .int .i64 x.b, .int .i64 x.c, .int .i64 x.d]
/-- The result's box, the four numbers so far, the iterator, the words. -/
def RdR (W : World) (ws : List (List UInt8)) (A : Option Addr) (n g k : Nat) (s : ByteArray) (x : I) (wr : World) : Prop :=
  Zb W.heap.size W.heap.size zero6 wr ∧ Zb W.heap.size g (four x) wr ∧ wr.heap[g + 1]? = some (.stringIter s k) ∧ W.heap.size < g ∧ Below W.heap.size W wr ∧ Words wr A n ws
section
variable {W wr w' : World} {ws : List (List UInt8)} {A : Option Addr} {n g k : Nat} {s : ByteArray} {x : I}
theorem Words.low {lo : Nat} {w w' : World} (h : Words w A n ws) (hb : Below lo w w') (hl : w.heap.size ≤ lo) : Words w' A n ws := h.below (hb.mono hl)
theorem RdR.at_ (h : RdR W ws A n g k s x wr) (hw : Words W A n ws) (k' : Nat) : RdR W ws A n g k' s x (wr.iterAt (g + 1) s k') := by
  have hg := h.2.2.2.1
  have hb := Lib.below_iterAt h.2.2.2.2.1 (k := g + 1) (by omega) s k'
  exact ⟨h.1.iterAt (by omega) _ _, h.2.1.iterAt (by omega) _ _, Lib.iterAt_heap _ _ _ k k' h.2.2.1, hg, hb, hw.below hb⟩
theorem RdR.below (h : RdR W ws A n g k s x wr) (hb : Below wr.heap.size wr w') : RdR W ws A n g k s x w' :=
  ⟨h.1.below hb, h.2.1.below hb, (hb.block _ (Array.getElem?_eq_some_iff.1 h.2.2.1).1).trans h.2.2.1, h.2.2.2.1, h.2.2.2.2.1.trans (hb.mono h.2.2.2.2.1.size), h.2.2.2.2.2.below hb⟩
theorem RdR.put {j : Nat} {y : I} (h : RdR W ws A n g k s x wr) (hw : Words W A n ws) (hj : j < 4) (u : Value) (e : (four x).set j u = four y) : RdR W ws A n g k s y (wr.setCell ⟨g, j, none⟩ u) := by
  have hg := h.2.2.2.1
  have hb : Below W.heap.size W (wr.setCell ⟨g, j, none⟩ u) := h.2.2.2.2.1.setCell (by show W.heap.size ≤ g; omega) u
  exact ⟨h.1.far (by omega) u, e ▸ h.2.1.set (by exact hj) u, (Below.heap_setCell _ _ _ _ (by show g + 1 ≠ g; omega)).trans h.2.2.1, hg, hb, hw.below hb⟩
theorem RdR.cells (h : RdR W ws A n g k s x wr) : (wr.cell? ⟨g, 0, none⟩ = some (.int .i64 x.a) ∧ wr.cell? ⟨g, 1, none⟩ = some (.int .i64 x.b) ∧ wr.cell? ⟨g, 2, none⟩ = some (.int .i64 x.c) ∧ wr.cell? ⟨g, 3, none⟩ = some (.int .i64 x.d)) ∧
    wr.frozen? ⟨g, 0, none⟩ = false ∧ wr.frozen? ⟨g, 1, none⟩ = false ∧ wr.frozen? ⟨g, 2, none⟩ = false ∧ wr.frozen? ⟨g, 3, none⟩ = false :=
  ⟨⟨h.2.1.2.1.2 0 _ rfl, h.2.1.2.1.2 1 _ rfl, h.2.1.2.1.2 2 _ rfl, h.2.1.2.1.2 3 _ rfl⟩, h.2.1.2.2 0, h.2.1.2.2 1, h.2.1.2.2 2, h.2.1.2.2 3⟩
end
theorem implWordZ (ws : List (List UInt8)) (A : Option Addr) (n c : Nat) (z : Int) (i : Nat) (hz : z = i) (w : World) (h : Words w A n ws) (hi : i ≤ 9223372036854775807) (hn : n ≤ 9223372036854775807) : Calls Tryd.prog 32 #[.slice A n c, .int .i64 z] w (SameS (strW ws i) w) := by
  subst hz
  exact implWord ws A n c i w h hi hn
theorem strW_size {ws : List (List UInt8)} (h : ∀ x ∈ ws, x.length ≤ 140737488351232) (i : Nat) : (strW ws i).size ≤ 140737488351232 := by
  unfold strW
  split
  · exact Nat.zero_le _
  · rename_i x hx
    have h1 := h x (List.mem_of_getElem? hx)
    show x.toArray.size ≤ _
    rw [List.size_toArray]; exact h1
theorem read_next {op : Int} {ws : List (List UInt8)} {k : Nat} {c : UInt8} {x y : I} (h : (layW op)[k]? = some c) (hx : readK op ws k = x) (hy : putI x c (strW ws (k + 1)) = y) : readK op ws (k + 1) = y := by
  rw [readK, h, ← hy, ← hx]
theorem put_a (x : I) (s : ByteArray) : putI x 65 s = ⟨x.op, numB s, x.b, x.c, x.d, x.name⟩ := rfl
theorem put_b (x : I) (s : ByteArray) : putI x 66 s = ⟨x.op, x.a, numB s, x.c, x.d, x.name⟩ := rfl
theorem put_c (x : I) (s : ByteArray) : putI x 67 s = ⟨x.op, x.a, x.b, numB s, x.d, x.name⟩ := rfl
theorem put_d (x : I) (s : ByteArray) : putI x 68 s = ⟨x.op, x.a, x.b, x.c, numB s, x.name⟩ := rfl
theorem put_n (x : I) (s : ByteArray) : putI x 78 s = ⟨x.op, x.a, x.b, x.c, x.d, s⟩ := rfl
theorem next_lay {wr : World} {op : Int} {g k : Nat} (h : wr.heap[g + 1]? = some (.stringIter (toB (layW op)) k)) {ch : UInt8} {n : Int} (hc : (layW op)[k]? = some ch) (hn : (ch.toNat : Int) = n) (ha : ch.toNat < 128) (ty : TypeId) :
    (Instr.next (.pointer (some ⟨g + 1, 0, none⟩)) true ty).run Tryd.prog wr = .ok (.tuple #[.bool true, .int .i64 k, .int .i32 n]) (wr.iterAt (g + 1) (toB (layW op)) (k + 1)) := by
  have hlt : k < (toB (layW op)).size := by
    show k < (layW op).toArray.size
    rw [List.size_toArray]
    exact (List.getElem?_eq_some_iff.1 hc).1
  have e : (toB (layW op))[k]'hlt = ch := (List.getElem?_eq_some_iff.1 hc).2
  rw [Lib.run_next_ascii_at wr (g + 1) (toB (layW op)) k ty h hlt (by rw [e]; exact ha), e, hn]
theorem readK_op (op : Int) (ws : List (List UInt8)) : ∀ k, (readK op ws k).op = op
  | 0 => rfl
  | k + 1 => by
    rw [readK]
    split
    · exact readK_op op ws k
    · unfold putI
      simp only []
      repeat' split
      all_goals exact readK_op op ws k
theorem head_strW (ws : List (List UInt8)) : (strW ws 0).data.toList = ws.headD [] := by
  cases ws with
  | nil => rfl
  | cons x ws => rfl
theorem zero_size : (zero6).length = 6 := rfl
/-- Six cells are stored. -/
def put6 (w : World) (g : Nat) (x : I) : World := (((((w.setCell ⟨g, 0, none⟩ (.int .i64 x.op)).setCell ⟨g, 1, none⟩ (.int .i64 x.a)).setCell ⟨g, 2, none⟩ (.int .i64 x.b)).setCell ⟨g, 3, none⟩ (.int .i64 x.c)).setCell ⟨g, 4, none⟩ (.int .i64 x.d)).setCell ⟨g, 5, none⟩ (.string x.name)
def six6 (x : I) : List Value := [.int .i64 x.op, .int .i64 x.a, .int .i64 x.b, .int .i64 x.c, .int .i64 x.d, .string x.name]
theorem Zb.put6 {B g : Nat} {w : World} {a b c d e f : Value} (h : Zb B g [a, b, c, d, e, f] w) (x : I) : Zb B g (six6 x) (put6 w g x) :=
  (((((h.set (j := 0) (by simp) (.int .i64 x.op)).set (j := 1) (by simp) (.int .i64 x.a)).set (j := 2) (by simp) (.int .i64 x.b)).set (j := 3) (by simp) (.int .i64 x.c)).set (j := 4) (by simp) (.int .i64 x.d)).set (j := 5) (by simp) (.string x.name)
theorem below_put6 {W w : World} {g : Nat} (h : Below W.heap.size W w) (hg : W.heap.size ≤ g) (x : I) : Below W.heap.size W (Go.Proofs.YthgcodbcafpmhaaDoor.put6 w g x) :=
  (((((h.setCell hg _).setCell hg _).setCell hg _).setCell hg _).setCell hg _).setCell hg _
theorem Zb.six {B g : Nat} {w : World} {a b c d e f : Value} (h : Zb B g [a, b, c, d, e, f] w) : (w.cell? ⟨g, 0, none⟩ = some a ∧ w.cell? ⟨g, 1, none⟩ = some b ∧ w.cell? ⟨g, 2, none⟩ = some c ∧ w.cell? ⟨g, 3, none⟩ = some d ∧ w.cell? ⟨g, 4, none⟩ = some e ∧ w.cell? ⟨g, 5, none⟩ = some f) ∧
    w.frozen? ⟨g, 0, none⟩ = false ∧ w.frozen? ⟨g, 1, none⟩ = false ∧ w.frozen? ⟨g, 2, none⟩ = false ∧ w.frozen? ⟨g, 3, none⟩ = false ∧ w.frozen? ⟨g, 4, none⟩ = false ∧ w.frozen? ⟨g, 5, none⟩ = false :=
  ⟨⟨h.2.1.2 0 _ rfl, h.2.1.2 1 _ rfl, h.2.1.2 2 _ rfl, h.2.1.2 3 _ rfl, h.2.1.2 4 _ rfl, h.2.1.2 5 _ rfl⟩, h.2.2 0, h.2.2 1, h.2.2 2, h.2.2 3, h.2.2 4, h.2.2 5⟩
set_option maxRecDepth 100000 in
set_option maxHeartbeats 8000000 in
theorem implRead (ws : List (List UInt8)) (A : Option Addr) (n c : Nat) (w : World) (h : Words w A n ws) (hn : n ≤ 1099511627777) (hl : ∀ x ∈ ws, x.length ≤ 140737488351232) (hV : Vars w) : Calls Tryd.prog 22 #[.slice A n c] w (GivesI (candP ws) w) := by
  have HV := Lib.hid hV
  have HW := Lib.hid h
  have HL := Lib.hid hl
  have HS0 := Lib.hid (strW_size hl 0)
  have Z0 := Lib.hid (Zb.new (B := w.heap.size) w #[.int .i64 0, .int .i64 0, .int .i64 0, .int .i64 0, .int .i64 0, .string ⟨#[]⟩] 26 (Nat.le_refl _))
  have B0 : Hid (Below w.heap.size w (w.alloc (.cells #[.int .i64 0, .int .i64 0, .int .i64 0, .int .i64 0, .int .i64 0, .string ⟨#[]⟩] 26))) := Lib.hid (by go_grown)
  have HH := Lib.hid (head_strW ws)
  clear h hl hV
  go_enter Tryd.func22, Tryd.ntmps22
  go_wp2_with fail
  refine (implWordZ ws A n c 0 0 rfl _ (HW.out.below B0.out) (by omega) (by omega)).mono ?_
  rintro e w1 ⟨rfl, rfl⟩
  go_wp2_with fail
  refine (implOpW (strW ws 0) _).mono ?_
  rintro e w2 ⟨rfl, hb⟩
  rw [HH.out]
  obtain ⟨op, hop⟩ : ∃ op, opW (ws.headD []) = op := ⟨_, rfl⟩
  rw [hop]
  have HOP := Lib.hid hop
  replace Z0 := Lib.hid (Z0.out.below hb)
  replace B0 := Lib.hid (B0.out.trans (hb.mono B0.out.size))
  have hww := Z0.out.2.1.1
  clear hb hop
  have G1 := Lib.hid (Zb.new (B := w.heap.size) w2 #[.int .i64 0, .int .i64 0, .int .i64 0, .int .i64 0] 35 (by omega))
  replace Z0 := Lib.hid (Z0.out.below ((Below.refl _ _).alloc (Nat.le_refl _) (.cells #[.int .i64 0, .int .i64 0, .int .i64 0, .int .i64 0] 35)))
  replace B0 := Lib.hid (B0.out.alloc B0.out.size (.cells #[.int .i64 0, .int .i64 0, .int .i64 0, .int .i64 0] 35))
  go_wp2_with (go_at_call 17; (with_reducible refine (implLay _ _).mono ?_); rintro e w3 ⟨rfl, rfl⟩)
  have R0 : Hid (RdR w ws A n w2.heap.size 0 (toB (layW op)) (readK op ws 0) ((w2.alloc (.cells #[.int .i64 0, .int .i64 0, .int .i64 0, .int .i64 0] 35)).iter (toB (layW op)) 0)) := by
    have h2 := World.iter_heap (w2.alloc (.cells #[.int .i64 0, .int .i64 0, .int .i64 0, .int .i64 0] 35)) (toB (layW op)) 0
    rw [World.size_alloc] at h2
    have hb : Below w.heap.size w ((w2.alloc (.cells #[.int .i64 0, .int .i64 0, .int .i64 0, .int .i64 0] 35)).iter (toB (layW op)) 0) := B0.out.alloc B0.out.size _
    exact Lib.hid ⟨Z0.out.below ((Below.refl _ _).alloc (Nat.le_refl _) _), G1.out.below ((Below.refl _ _).alloc (Nat.le_refl _) _), h2, hww, hb, HW.out.below hb⟩
  clear G1 Z0 B0
  go_loopw [5] (fun nv wr => ∃ (k : Nat) (x : I), k ≤ (layW op).length ∧ readK op ws k = x ∧ nv = .string x.name ∧ RdR w ws A n w2.heap.size k (toB (layW op)) x wr) (fun _ wr => (layW op).length - wr.iterPos (w2.heap.size + 1))
  case atStart => exact ⟨0, _, Nat.zero_le _, rfl, rfl, by simpa using R0.out⟩
  case round =>
    obtain ⟨k, x, hk, hx, rfl, hR⟩ := hrel
    have HR := Lib.hid hR
    have HX := Lib.hid hx
    have HP := Lib.hid hR.2.2.1
    have hls := lay_short op
    clear hR R0 hx
    by_cases hlt : k < (layW op).length
    · obtain ⟨ch, hch⟩ : ∃ ch, (layW op)[k]? = some ch := ⟨_, List.getElem?_eq_getElem hlt⟩
      have HS := Lib.hid (strW_size HL.out (k + 1))
      rcases lay_letters op ch (List.mem_of_getElem? hch) with rfl | rfl | rfl | rfl | rfl
      · have HN := Lib.hid (read_next hch HX.out (put_a x (strW ws (k + 1))))
        have hnx := fun ty => next_lay (op := op) HP.out hch (n := 65) rfl (by decide) ty
        have HC := Lib.hid (HR.out.at_ HW.out (k + 1))
        have HWq := Lib.hid HC.out.2.2.2.2.2
        generalize wr.iterAt (w2.heap.size + 1) (toB (layW op)) (k + 1) = wq at *
        clear hch
        go_wp2_with (go_at_call 32; (with_reducible refine (implWordZ ws A n c _ (k + 1) (by omega) _ HWq.out (by omega) (by omega)).mono ?_); rintro e w5 ⟨rfl, rfl⟩)
        refine (implNumB _ _ HS.out (HV.out.below HC.out.2.2.2.2.1)).mono ?_
        rintro e w4 ⟨rfl, hb⟩
        have HD := Lib.hid (HC.out.below hb)
        clear hb
        obtain ⟨⟨q0, q1, q2, q3⟩, f0, f1, f2, f3⟩ := HD.out.cells
        have HF := Lib.hid (HD.out.put (j := 0) (y := ⟨x.op, numB (strW ws (k + 1)), x.b, x.c, x.d, x.name⟩) HW.out (by decide) (.int .i64 (numB (strW ws (k + 1)))) rfl)
        go_wp2_with fail
        go_roundw
        case rel => exact ⟨k + 1, _, by omega, HN.out, rfl, HF.out⟩
        case measure => rw [iterPos_of HF.out.2.2.1, iterPos_of HP.out]; omega
      · have HN := Lib.hid (read_next hch HX.out (put_b x (strW ws (k + 1))))
        have hnx := fun ty => next_lay (op := op) HP.out hch (n := 66) rfl (by decide) ty
        have HC := Lib.hid (HR.out.at_ HW.out (k + 1))
        have HWq := Lib.hid HC.out.2.2.2.2.2
        generalize wr.iterAt (w2.heap.size + 1) (toB (layW op)) (k + 1) = wq at *
        clear hch
        go_wp2_with (go_at_call 32; (with_reducible refine (implWordZ ws A n c _ (k + 1) (by omega) _ HWq.out (by omega) (by omega)).mono ?_); rintro e w5 ⟨rfl, rfl⟩)
        refine (implNumB _ _ HS.out (HV.out.below HC.out.2.2.2.2.1)).mono ?_
        rintro e w4 ⟨rfl, hb⟩
        have HD := Lib.hid (HC.out.below hb)
        clear hb
        obtain ⟨⟨q0, q1, q2, q3⟩, f0, f1, f2, f3⟩ := HD.out.cells
        have HF := Lib.hid (HD.out.put (j := 1) (y := ⟨x.op, x.a, numB (strW ws (k + 1)), x.c, x.d, x.name⟩) HW.out (by decide) (.int .i64 (numB (strW ws (k + 1)))) rfl)
        go_wp2_with fail
        go_roundw
        case rel => exact ⟨k + 1, _, by omega, HN.out, rfl, HF.out⟩
        case measure => rw [iterPos_of HF.out.2.2.1, iterPos_of HP.out]; omega
      · have HN := Lib.hid (read_next hch HX.out (put_c x (strW ws (k + 1))))
        have hnx := fun ty => next_lay (op := op) HP.out hch (n := 67) rfl (by decide) ty
        have HC := Lib.hid (HR.out.at_ HW.out (k + 1))
        have HWq := Lib.hid HC.out.2.2.2.2.2
        generalize wr.iterAt (w2.heap.size + 1) (toB (layW op)) (k + 1) = wq at *
        clear hch
        go_wp2_with (go_at_call 32; (with_reducible refine (implWordZ ws A n c _ (k + 1) (by omega) _ HWq.out (by omega) (by omega)).mono ?_); rintro e w5 ⟨rfl, rfl⟩)
        refine (implNumB _ _ HS.out (HV.out.below HC.out.2.2.2.2.1)).mono ?_
        rintro e w4 ⟨rfl, hb⟩
        have HD := Lib.hid (HC.out.below hb)
        clear hb
        obtain ⟨⟨q0, q1, q2, q3⟩, f0, f1, f2, f3⟩ := HD.out.cells
        have HF := Lib.hid (HD.out.put (j := 2) (y := ⟨x.op, x.a, x.b, numB (strW ws (k + 1)), x.d, x.name⟩) HW.out (by decide) (.int .i64 (numB (strW ws (k + 1)))) rfl)
        go_wp2_with fail
        go_roundw
        case rel => exact ⟨k + 1, _, by omega, HN.out, rfl, HF.out⟩
        case measure => rw [iterPos_of HF.out.2.2.1, iterPos_of HP.out]; omega
      · have HN := Lib.hid (read_next hch HX.out (put_d x (strW ws (k + 1))))
        have hnx := fun ty => next_lay (op := op) HP.out hch (n := 68) rfl (by decide) ty
        have HC := Lib.hid (HR.out.at_ HW.out (k + 1))
        have HWq := Lib.hid HC.out.2.2.2.2.2
        generalize wr.iterAt (w2.heap.size + 1) (toB (layW op)) (k + 1) = wq at *
        clear hch
        go_wp2_with (go_at_call 32; (with_reducible refine (implWordZ ws A n c _ (k + 1) (by omega) _ HWq.out (by omega) (by omega)).mono ?_); rintro e w5 ⟨rfl, rfl⟩)
        refine (implNumB _ _ HS.out (HV.out.below HC.out.2.2.2.2.1)).mono ?_
        rintro e w4 ⟨rfl, hb⟩
        have HD := Lib.hid (HC.out.below hb)
        clear hb
        obtain ⟨⟨q0, q1, q2, q3⟩, f0, f1, f2, f3⟩ := HD.out.cells
        have HF := Lib.hid (HD.out.put (j := 3) (y := ⟨x.op, x.a, x.b, x.c, numB (strW ws (k + 1)), x.name⟩) HW.out (by decide) (.int .i64 (numB (strW ws (k + 1)))) rfl)
        go_wp2_with fail
        go_roundw
        case rel => exact ⟨k + 1, _, by omega, HN.out, rfl, HF.out⟩
        case measure => rw [iterPos_of HF.out.2.2.1, iterPos_of HP.out]; omega
      · have HN := Lib.hid (read_next hch HX.out (put_n x (strW ws (k + 1))))
        have hnx := fun ty => next_lay (op := op) HP.out hch (n := 78) rfl (by decide) ty
        have HC := Lib.hid (HR.out.at_ HW.out (k + 1))
        have HWq := Lib.hid HC.out.2.2.2.2.2
        generalize wr.iterAt (w2.heap.size + 1) (toB (layW op)) (k + 1) = wq at *
        clear hch
        go_wp2_with (go_at_call 32; (with_reducible refine (implWordZ ws A n c _ (k + 1) (by omega) _ HWq.out (by omega) (by omega)).mono ?_); rintro e w5 ⟨rfl, rfl⟩)
        go_roundw
        case rel => exact ⟨k + 1, _, by omega, HN.out, rfl, HC.out⟩
        case measure => rw [iterPos_of HC.out.2.2.1, iterPos_of HP.out]; omega
    · obtain rfl : k = (layW op).length := by omega
      have hxo : x.op = op := by rw [← HX.out]; exact readK_op op ws _
      have HN : Hid (x = candP ws) := Lib.hid (by rw [← HX.out, candP, HOP.out])
      have hnx : ∀ ty, (Instr.next (.pointer (some ⟨w2.heap.size + 1, 0, none⟩)) true ty).run Tryd.prog wr = _ := fun ty => Lib.run_next_end_at wr (w2.heap.size + 1) (toB (layW op)) _ ty HP.out (by show ¬ (layW op).length < (layW op).toArray.size; rw [List.size_toArray]; omega)
      obtain ⟨op', a, b, c', d, nm⟩ := x
      obtain rfl : op' = op := hxo
      obtain ⟨⟨q0, q1, q2, q3⟩, -⟩ := HR.out.cells
      have HZ : Hid (Zb w.heap.size w.heap.size [.int .i64 0, .int .i64 0, .int .i64 0, .int .i64 0, .int .i64 0, .string ⟨#[]⟩] wr) := Lib.hid HR.out.1
      obtain ⟨⟨z0, z1, z2, z3, z4, z5⟩, y0, y1, y2, y3, y4, y5⟩ := HZ.out.six
      have HQ := Lib.hid (HZ.out.put6 ⟨op', a, b, c', d, nm⟩)
      have HBB := Lib.hid (below_put6 HR.out.2.2.2.2.1 (Nat.le_refl _) ⟨op', a, b, c', d, nm⟩)
      obtain ⟨p0, p1, p2, p3, p4, p5⟩ := HQ.out.six.1
      have HF : Hid (GivesI (candP ws) w (.returned (.agg #[.int .i64 op', .int .i64 a, .int .i64 b, .int .i64 c', .int .i64 d, .string nm])) (put6 wr w.heap.size ⟨op', a, b, c', d, nm⟩)) := Lib.hid ⟨by rw [← HN.out], HBB.out⟩
      unfold put6 at p0 p1 p2 p3 p4 p5 HF
      simp only at p0 p1 p2 p3 p4 p5 HF
      go_wp2_with fail
      generalize ((((((wr.setCell ⟨w.heap.size, 0, none⟩ (.int .i64 op')).setCell ⟨w.heap.size, 1, none⟩ (.int .i64 a)).setCell ⟨w.heap.size, 2, none⟩ (.int .i64 b)).setCell ⟨w.heap.size, 3, none⟩ (.int .i64 c')).setCell ⟨w.heap.size, 4, none⟩ (.int .i64 d)).setCell ⟨w.heap.size, 5, none⟩ (.string nm)) = w9 at *
      refine bodyPost_ret (v := .agg #[.int .i64 op', .int .i64 a, .int .i64 b, .int .i64 c', .int .i64 d, .string nm]) (by simp [results, Tryd.results22, go_sem, p0, p1, p2, p3, p4, p5]; try rfl) rfl ?_
      exact HF.out
end Go.Proofs.YthgcodbcafpmhaaDoor
