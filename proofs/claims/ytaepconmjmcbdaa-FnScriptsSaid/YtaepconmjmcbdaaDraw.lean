/- The draws: a cursor over bytes: each draw returns a number in its range, and turns nothing but the cursor. -/
import Derived.Test.YtaepconmjmcbdaaLawKit
import Derived.Test.YtaepconmjmcbdaaProg
import Derived.LoopTactic
import Derived.Lib.Hide
import Derived.Deep.QuietTactic
import Derived.BigQuiet
import Derived.ChangeSlices
namespace Go.Proofs.Ytaepconmjmcbdaa
open Go.RowKit

/-- The slice's cells read as xs; it lies below block B. -/
def Rd (w : World) (B : Nat) (A : Option Addr) (xs : List Value) : Prop := xs = [] ∨ ∃ b off, A = some ⟨b, off, none⟩ ∧ b < B ∧ ∀ j v, xs[j]? = some v → w.cell? ⟨b, off + j, none⟩ = some v
theorem Rd.at_ {w : World} {B : Nat} {A : Option Addr} {xs : List Value} (h : Rd w B A xs) {k : Nat} (hk : k < xs.length) :
    ∃ b off, A = some ⟨b, off, none⟩ ∧ b < B ∧ w.cell? ⟨b, off + k, none⟩ = some xs[k] := by
  rcases h with rfl | ⟨b, off, e, hb, hc⟩
  · simp at hk
  · exact ⟨b, off, e, hb, hc k _ (List.getElem?_eq_getElem hk)⟩
theorem Rd.below {w w' : World} {B : Nat} {A : Option Addr} {xs : List Value} (h : Rd w B A xs) (hb : Below B w w') : Rd w' B A xs := by
  rcases h with rfl | ⟨b, off, e, hlt, hc⟩
  · exact Or.inl rfl
  · exact Or.inr ⟨b, off, e, hlt, fun j v hj => (hb.cell (p := ⟨b, off + j, none⟩) hlt).trans (hc j v hj)⟩
theorem Rd.more {w : World} {B B' : Nat} {A : Option Addr} {xs : List Value} (h : Rd w B A xs) (hB : B ≤ B') : Rd w B' A xs := by
  rcases h with rfl | ⟨b, off, e, hlt, hc⟩
  · exact Or.inl rfl
  · exact Or.inr ⟨b, off, e, by omega, hc⟩

/-- Nothing turns but block g; new blocks may lie behind. -/
structure Turn (g : Nat) (w w' : World) : Prop where
  os : w'.os = w.os
  tape : w'.tape = w.tape
  output : w'.output = w.output
  size : w.heap.size ≤ w'.heap.size
  block : ∀ k, k < w.heap.size → k ≠ g → w'.heap[k]? = w.heap[k]?
theorem Turn.refl (g : Nat) (w : World) : Turn g w w := ⟨rfl, rfl, rfl, Nat.le_refl _, fun _ _ _ => rfl⟩
theorem Turn.trans {g : Nat} {a b c : World} (h : Turn g a b) (k : Turn g b c) : Turn g a c :=
  ⟨k.os.trans h.os, k.tape.trans h.tape, k.output.trans h.output, Nat.le_trans h.size k.size, fun i hi hg => (k.block i (Nat.lt_of_lt_of_le hi h.size) hg).trans (h.block i hi hg)⟩
theorem Turn.drewN {g : Nat} {a w : World} (h : Turn g a w) (n : Nat) : Turn g a (w.drewN n) := ⟨h.os, h.tape, h.output, h.size, h.block⟩
theorem Turn.alloc {g : Nat} {a w : World} (h : Turn g a w) (o : Obj) : Turn g a (w.alloc o) :=
  h.trans ⟨rfl, rfl, rfl, by simp, fun k hk _ => Below.heap_alloc _ _ _ hk⟩
theorem Turn.setCell {g : Nat} {a w : World} (h : Turn g a w) {p : Addr} (hp : p.block = g) (u : Value) : Turn g a (w.setCell p u) :=
  h.trans ⟨rfl, rfl, rfl, by simp [World.setCell], fun k _ hg => Below.heap_setCell _ _ _ _ (by rw [hp]; exact hg)⟩
theorem Turn.below {g B : Nat} {w w' : World} (h : Turn g w w') (hB : B ≤ g) (hs : B ≤ w.heap.size) : Below B w w' :=
  ⟨h.os, h.tape, h.output, h.size, fun k hk => h.block k (by omega) (by omega)⟩
theorem Turn.of_below {g : Nat} {w w' : World} (h : Below w.heap.size w w') : Turn g w w' := ⟨h.os, h.tape, h.output, h.size, fun k hk _ => h.block k hk⟩
theorem Turn.cell {g : Nat} {w w' : World} (h : Turn g w w') {p : Addr} (hp : p.block < w.heap.size) (hg : p.block ≠ g) : w'.cell? p = w.cell? p := World.cell?_of_block (w := w) (h.block p.block hp hg)
theorem Rd.turn {w w' : World} {B g : Nat} {A : Option Addr} {xs : List Value} (h : Rd w B A xs) (ht : Turn g w w') (hB : B ≤ g) (hs : B ≤ w.heap.size) : Rd w' B A xs := h.below (ht.below hB hs)

/-- Block g is the cursor. -/
def Cur (w : World) (B g : Nat) : Prop :=
  ∃ (A : Option Addr) (n c : Nat) (zs : List Nat) (i : Nat) (h : Int), w.heap[g]? = some (.cells #[.slice A n c, .int .i64 i, .int .i64 h] 100 (0, 0)) ∧ zs.length = n ∧ n ≤ 9223372036854775807 ∧ (∀ z ∈ zs, z ≤ 255) ∧
    Rd w B A (zs.map fun (z : Nat) => Value.int .u8 (z : Int)) ∧ i ≤ n ∧ B ≤ g
theorem cell_set {w : World} {g o : Nat} {C : Array Value} {t : TypeId} {fz : Nat × Nat} (h : w.heap[g]? = some (.cells C t fz)) (v : Value) : (w.setCell ⟨g, o, none⟩ v).heap[g]? = some (.cells (C.setIfInBounds o v) t fz) := by
  have hlt : g < w.heap.size := by
    rcases Nat.lt_or_ge g w.heap.size with h' | h'
    · exact h'
    · simp [Array.getElem?_eq_none h'] at h
  have h' : w.heap[g] = .cells C t fz := by simpa [Array.getElem?_eq_getElem hlt] using h
  show (w.heap.modify g _)[g]? = _
  rw [Array.getElem?_eq_getElem (by simpa using hlt), Array.getElem_modify_self, h']
  rfl
theorem i64_and255 (n : Int) : bits .and .i64 n 255 = n % 256 := by
  have h255 : (BitVec.ofInt 64 255).toNat = 2 ^ 8 - 1 := by decide
  have key : (BitVec.ofInt 64 n &&& BitVec.ofInt 64 255).toNat = (n % ((2 ^ 64 : Nat) : Int)).toNat % 2 ^ 8 := by
    rw [BitVec.toNat_and, BitVec.toNat_ofInt, h255, Nat.and_two_pow_sub_one_eq_mod]
  show IntKind.i64.wrap ((BitVec.ofInt 64 n &&& BitVec.ofInt 64 255).toNat : Nat) = n % 256
  rw [key, IntKind.wrap_i64]
  omega
/-- What a draw leaves: the cursor, and nothing else turned. -/
def Left (B g : Nat) (w w' : World) : Prop := Cur w' B g ∧ Turn g w w'
/-- A number from lo to hi, and what a draw leaves. -/
def Num (lo hi : Int) (B g : Nat) (w : World) (e : Ending) (w' : World) : Prop := ∃ x : Int, lo ≤ x ∧ x ≤ hi ∧ e = .returned (.int .i64 x) ∧ Left B g w w'
theorem num_255 (n : Int) {B g : Nat} {w w' : World} (h : Left B g w w') : Num 0 255 B g w (.returned (.int .i64 (bits .and .i64 n 255))) w' :=
  ⟨bits .and .i64 n 255, by rw [i64_and255]; omega, by rw [i64_and255]; omega, rfl, h⟩
theorem left_one {B g : Nat} {w : World} {A : Option Addr} {n c : Nat} {zs : List Nat} {i : Nat} {h : Int} (hg : w.heap[g]? = some (.cells #[.slice A n c, .int .i64 i, .int .i64 h] 100 (0, 0))) (hl : zs.length = n) (hn : n ≤ 9223372036854775807)
    (hz : ∀ z ∈ zs, z ≤ 255) (hR : Rd w B A (zs.map fun (z : Nat) => Value.int .u8 (z : Int))) (hi : i ≤ n) (hB : B ≤ g) (hs : B ≤ w.heap.size) (h' : Int) (k : Nat) : Left B g w ((w.setCell ⟨g, 2, none⟩ (.int .i64 h')).drewN k) := by
  have t : Turn g w ((w.setCell ⟨g, 2, none⟩ (.int .i64 h')).drewN k) := ((Turn.refl g w).setCell rfl _).drewN _
  exact ⟨⟨A, n, c, zs, i, h', cell_set hg _, hl, hn, hz, hR.turn t hB hs, hi, hB⟩, t⟩
theorem left_two {B g : Nat} {w : World} {A : Option Addr} {n c : Nat} {zs : List Nat} {i : Nat} {h : Int} (hg : w.heap[g]? = some (.cells #[.slice A n c, .int .i64 i, .int .i64 h] 100 (0, 0))) (hl : zs.length = n) (hn : n ≤ 9223372036854775807)
    (hz : ∀ z ∈ zs, z ≤ 255) (hR : Rd w B A (zs.map fun (z : Nat) => Value.int .u8 (z : Int))) (hi : i < n) (hB : B ≤ g) (hs : B ≤ w.heap.size) (h' : Int) (k : Nat) :
    Left B g w (((w.setCell ⟨g, 2, none⟩ (.int .i64 h')).drewN k).setCell ⟨g, 1, none⟩ (.int .i64 ((i : Int) + 1))) := by
  have t : Turn g w (((w.setCell ⟨g, 2, none⟩ (.int .i64 h')).drewN k).setCell ⟨g, 1, none⟩ (.int .i64 ((i : Int) + 1))) := (((Turn.refl g w).setCell rfl _).drewN _).setCell rfl _
  have h1 : ((w.setCell ⟨g, 2, none⟩ (.int .i64 h')).drewN k).heap[g]? = some (.cells #[.slice A n c, .int .i64 i, .int .i64 h'] 100 (0, 0)) := cell_set hg _
  exact ⟨⟨A, n, c, zs, i + 1, h', cell_set h1 _, hl, hn, hz, hR.turn t hB hs, by omega, hB⟩, t⟩
theorem Left.drewN {B g : Nat} {w w' : World} (h : Left B g w w') (k : Nat) : Left B g w (w'.drewN k) := ⟨h.1, h.2.drewN k⟩
theorem Left.trans {B g : Nat} {a b c : World} (h : Left B g a b) (k : Left B g b c) : Left B g a c := ⟨k.1, h.2.trans k.2⟩
set_option maxHeartbeats 1000000 in
theorem l1Byte (B g : Nat) (w : World) (hc : Cur w B g) : Calls Try.prog 76 #[.pointer (some ⟨g, 0, none⟩)] w (Num 0 255 B g w) := by
  obtain ⟨A, n, c, zs, i, h, hg, hl, hn, hz, hR, hi, hB⟩ := hc
  have c0 : w.cell? ⟨g, 0, none⟩ = some (.slice A n c) := by simp [World.cell?, hg]
  have c1 : w.cell? ⟨g, 1, none⟩ = some (.int .i64 i) := by simp [World.cell?, hg]
  have c2 : w.cell? ⟨g, 2, none⟩ = some (.int .i64 h) := by simp [World.cell?, hg]
  have f0 : ∀ o, w.frozen? ⟨g, o, none⟩ = false := by intro o; simp [World.frozen?, hg]
  have HG := Lib.hid hg
  have HR := Lib.hid hR
  have HZ := Lib.hid hz
  have hBs : B ≤ w.heap.size := by
    have : g < w.heap.size := by
      rcases Nat.lt_or_ge g w.heap.size with h' | h'
      · exact h'
      · simp [Array.getElem?_eq_none h'] at hg
    omega
  clear hg
  by_cases hlt : i < n
  · have hx : i < (zs.map fun (z : Nat) => Value.int .u8 (z : Int)).length := by simpa [hl] using hlt
    obtain ⟨b, off, rfl, hbB, hcell⟩ := hR.at_ hx
    have hcell' : w.cell? ⟨b, off + i, none⟩ = some (.int .u8 ((zs[i]'(by omega) : Nat) : Int)) := by simpa using hcell
    have hzi : ((zs[i]'(by omega) : Nat) : Int) ≤ 255 := by have := hz _ (List.getElem_mem (by omega : i < zs.length)); omega
    clear hcell
    have hbg : b ≠ g := by omega
    have hi1 : (0 : Int) ≤ (i : Int) := by omega
    have hi2 : (i : Int) < (n : Int) := by omega
    have hdl : decide (i < n) = true := by simpa using hlt
    generalize hzq : (zs[i]'(by omega) : Nat) = zi at *
    have HL := Lib.hid hl
    clear hzq hR hz hl
    go_enter Try.func76, Try.ntmps76
    go_wp2
    go_quiet (fail)
    go_wp2
    go_quiet (fail)
    go_wp2
    go_quiet (fail)
    go_wp2
    go_ret
    exact num_255 _ (left_two HG.out HL.out hn HZ.out HR.out hlt hB hBs _ _)
  · have hdl : decide (i < n) = false := by simpa using hlt
    have HL := Lib.hid hl
    clear hR hz hl
    go_enter Try.func76, Try.ntmps76
    go_wp2
    go_quiet (fail)
    go_wp2
    go_quiet (fail)
    go_wp2
    go_ret
    exact num_255 _ ((left_one HG.out HL.out hn HZ.out HR.out hi hB hBs _ _).drewN _)

theorem Num.ret {lo hi x : Int} {B g : Nat} {w w' : World} (h1 : lo ≤ x) (h2 : x ≤ hi) (h : Left B g w w') : Num lo hi B g w (.returned (.int .i64 x)) w' := ⟨x, h1, h2, rfl, h⟩
set_option maxHeartbeats 1000000 in
/-- l1Below(c, n), n above 0. -/
theorem l1Below (B g : Nat) (n : Int) (w : World) (h0 : 0 < n) (h1 : n ≤ 9223372036854775807) (hc : Cur w B g) : Calls Try.prog 43 #[.pointer (some ⟨g, 0, none⟩), .int .i64 n] w (Num 0 (n - 1) B g w) := by
  by_cases hs : n ≤ 256
  · go_enter Try.func43, Try.ntmps43
    go_wp2_with fail
    refine (l1Byte B g _ hc).mono ?_
    rintro e w1 ⟨x, hx0, hx1, rfl, hL1⟩
    go_wp2_with fail
    go_ret
    exact Num.ret (Int.emod_nonneg _ (by omega)) (by have := Int.emod_lt_of_pos x h0; omega) hL1
  · go_enter Try.func43, Try.ntmps43
    go_wp2_with fail
    refine (l1Byte B g _ hc).mono ?_
    rintro e w1 ⟨x, hx0, hx1, rfl, hL1⟩
    go_wp2_with fail
    refine (l1Byte B g _ hL1.1).mono ?_
    rintro e w2 ⟨y, hy0, hy1, rfl, hL2⟩
    go_wp2_with fail
    refine (l1Byte B g _ hL2.1).mono ?_
    rintro e w3 ⟨z, hz0, hz1, rfl, hL3⟩
    go_wp2_with fail
    go_ret
    exact Num.ret (Int.emod_nonneg _ (by omega)) (by have := Int.emod_lt_of_pos (x * 65536 + y * 256 + z) h0; omega) ((hL1.trans hL2).trans hL3)
/-- l1Once(c, n): yes or no. -/
def Maybe (B g : Nat) (w : World) (e : Ending) (w' : World) : Prop := ∃ b : Bool, e = .returned (.bool b) ∧ Left B g w w'
theorem Maybe.ret {b : Bool} {B g : Nat} {w w' : World} (h : Left B g w w') : Maybe B g w (.returned (.bool b)) w' := ⟨b, rfl, h⟩
theorem l1Once (B g : Nat) (n : Int) (w : World) (h0 : 0 < n) (h1 : n ≤ 9223372036854775807) (hc : Cur w B g) : Calls Try.prog 52 #[.pointer (some ⟨g, 0, none⟩), .int .i64 n] w (Maybe B g w) := by
  go_enter Try.func52, Try.ntmps52
  go_wp2_with fail
  refine (l1Below B g n _ h0 h1 hc).mono ?_
  rintro e w1 ⟨x, hx0, hx1, rfl, hL1⟩
  go_wp2_with fail
  go_ret
  exact Maybe.ret hL1
/-- l1Int(c, list): one of the list, which lies in block k. -/
theorem l1Int (B g k : Nat) (cap : Nat) (zs : List Int) (lo hi : Int) (w : World) (hk : k ≠ g) (hkw : k < w.heap.size) (hz : ∀ z ∈ zs, lo ≤ z ∧ z ≤ hi) (hn : 0 < zs.length) (hm : zs.length ≤ 9223372036854775807)
    (hl : ∀ j, (h : j < zs.length) → w.cell? ⟨k, j, none⟩ = some (.int .i64 zs[j])) (hc : Cur w B g) :
    Calls Try.prog 81 #[.pointer (some ⟨g, 0, none⟩), .slice (some ⟨k, 0, none⟩) zs.length cap] w (Num lo hi B g w) := by
  have HL := Lib.hid hl
  have HZ := Lib.hid hz
  clear hl hz
  go_enter Try.func81, Try.ntmps81
  go_wp2_with fail
  refine (l1Below B g _ _ (by omega) (by omega) hc).mono ?_
  rintro e w1 ⟨x, hx0, hx1, rfl, hL1⟩
  obtain ⟨i, rfl⟩ : ∃ i : Nat, x = i := ⟨x.toNat, by omega⟩
  have hi : i < zs.length := by omega
  have hcell : w1.cell? ⟨k, i, none⟩ = some (.int .i64 zs[i]) := (hL1.2.cell (p := ⟨k, i, none⟩) hkw hk).trans (HL.out i hi)
  have hb := HZ.out zs[i] (List.getElem_mem hi)
  go_wp2_with fail
  go_ret
  exact Num.ret hb.1 hb.2 hL1

/-! ### A list that the draw lays -/
theorem Cur.alloc {w : World} {B g : Nat} (h : Cur w B g) (hs : B ≤ w.heap.size) (o : Obj) : Cur (w.alloc o) B g := by
  obtain ⟨A, n, c, zs, i, hh, hg, hl, hn, hz, hR, hi, hB⟩ := h
  have hlt : g < w.heap.size := by
    rcases Nat.lt_or_ge g w.heap.size with h' | h'
    · exact h'
    · simp [Array.getElem?_eq_none h'] at hg
  exact ⟨A, n, c, zs, i, hh, (Below.heap_alloc w o g hlt).trans hg, hl, hn, hz, hR.below ((Below.refl _ _).alloc hs _), hi, hB⟩
theorem Cur.lt {w : World} {B g : Nat} (h : Cur w B g) : g < w.heap.size := by
  obtain ⟨A, n, c, zs, i, hh, hg, -⟩ := h
  rcases Nat.lt_or_ge g w.heap.size with h' | h'
  · exact h'
  · simp [Array.getElem?_eq_none h'] at hg
theorem Cur.le {w : World} {B g : Nat} (h : Cur w B g) : B ≤ w.heap.size := by
  have := h.lt
  obtain ⟨A, n, c, zs, i, hh, hg, hl, hn, hz, hR, hi, hB⟩ := h
  omega
theorem Cur.alloc' {w : World} {B g : Nat} (h : Cur w B g) (o : Obj) : Cur (w.alloc o) B g := h.alloc h.le o
theorem Left.after {B g : Nat} {w w' : World} (o : Obj) (k : Left B g (w.alloc o) w') : Left B g w w' := ⟨k.1, ((Turn.refl g w).alloc o).trans k.2⟩
theorem int_cells (w : World) (zs : List Int) (T : TypeId) (j : Nat) (h : j < zs.length) : (w.alloc (.cells (zs.map (Value.int .i64)).toArray T)).cell? ⟨w.heap.size, j, none⟩ = some (.int .i64 zs[j]) := by
  rw [World.cell?_alloc_new]
  simp [h]
theorem str_cells (w : World) (zs : List ByteArray) (T : TypeId) (j : Nat) (h : j < zs.length) : (w.alloc (.cells (zs.map Value.string).toArray T)).cell? ⟨w.heap.size, j, none⟩ = some (.string zs[j]) := by
  rw [World.cell?_alloc_new]
  simp [h]
/-- l1Int at a list just laid. -/
theorem l1Int_new (B g : Nat) (zs : List Int) (n : Nat) (lo hi : Int) (w : World) (hlen : zs.length = n) (hz : ∀ z ∈ zs, lo ≤ z ∧ z ≤ hi) (hn : 0 < n) (hm : n ≤ 9223372036854775807) (hc : Cur w B g) (C : Array Value) (hC : C = (zs.map (Value.int .i64)).toArray) (T : TypeId) :
    Calls Try.prog 81 #[.pointer (some ⟨g, 0, none⟩), .slice (some ⟨w.heap.size, 0, none⟩) n n] (w.alloc (.cells C T)) (Num lo hi B g w) := by
  subst hC hlen
  refine (l1Int B g w.heap.size zs.length zs lo hi _ (by have := hc.lt; omega) (by simp) hz hn hm (fun j h => int_cells w zs T j h) (hc.alloc' _)).mono ?_
  rintro e w' ⟨x, h1, h2, rfl, hL⟩
  exact ⟨x, h1, h2, rfl, hL.after _⟩
/-- A short string, and what a draw leaves. -/
def Str (m : Nat) (B g : Nat) (w : World) (e : Ending) (w' : World) : Prop := ∃ s : ByteArray, s.size ≤ m ∧ e = .returned (.string s) ∧ Left B g w w'
theorem Str.ret {m : Nat} {s : ByteArray} {B g : Nat} {w w' : World} (h1 : s.size ≤ m) (h : Left B g w w') : Str m B g w (.returned (.string s)) w' := ⟨s, h1, rfl, h⟩
theorem l1Str (B g k : Nat) (cap : Nat) (zs : List ByteArray) (m : Nat) (w : World) (hk : k ≠ g) (hkw : k < w.heap.size) (hz : ∀ z ∈ zs, z.size ≤ m) (hn : 0 < zs.length) (hm : zs.length ≤ 9223372036854775807)
    (hl : ∀ j, (h : j < zs.length) → w.cell? ⟨k, j, none⟩ = some (.string zs[j])) (hc : Cur w B g) :
    Calls Try.prog 77 #[.pointer (some ⟨g, 0, none⟩), .slice (some ⟨k, 0, none⟩) zs.length cap] w (Str m B g w) := by
  have HL := Lib.hid hl
  have HZ := Lib.hid hz
  clear hl hz
  go_enter Try.func77, Try.ntmps77
  go_wp2_with fail
  refine (l1Below B g _ _ (by omega) (by omega) hc).mono ?_
  rintro e w1 ⟨x, hx0, hx1, rfl, hL1⟩
  obtain ⟨i, rfl⟩ : ∃ i : Nat, x = i := ⟨x.toNat, by omega⟩
  have hi : i < zs.length := by omega
  have hcell : w1.cell? ⟨k, i, none⟩ = some (.string zs[i]) := (hL1.2.cell (p := ⟨k, i, none⟩) hkw hk).trans (HL.out i hi)
  have hb := HZ.out zs[i] (List.getElem_mem hi)
  go_wp2_with fail
  go_ret
  exact Str.ret hb hL1
theorem l1Str_new (B g : Nat) (zs : List ByteArray) (n m : Nat) (w : World) (hlen : zs.length = n) (hz : ∀ z ∈ zs, z.size ≤ m) (hn : 0 < n) (hm : n ≤ 9223372036854775807) (hc : Cur w B g) (C : Array Value) (hC : C = (zs.map Value.string).toArray) (T : TypeId) :
    Calls Try.prog 77 #[.pointer (some ⟨g, 0, none⟩), .slice (some ⟨w.heap.size, 0, none⟩) n n] (w.alloc (.cells C T)) (Str m B g w) := by
  subst hC hlen
  refine (l1Str B g w.heap.size zs.length zs m _ (by have := hc.lt; omega) (by simp) hz hn hm (fun j h => str_cells w zs T j h) (hc.alloc' _)).mono ?_
  rintro e w' ⟨x, h1, rfl, hL⟩
  exact ⟨x, h1, rfl, hL.after _⟩
def wide : Int := 9223372036854775808
/-- A number that an int holds. -/
def Any64 (B g : Nat) (w : World) (e : Ending) (w' : World) : Prop := Num (-wide) (wide - 1) B g w e w'
theorem Any64.of {lo hi : Int} {B g : Nat} {w w' : World} {e : Ending} (h : Num lo hi B g w e w') (h1 : -9223372036854775808 ≤ lo) (h2 : hi ≤ 9223372036854775807) : Any64 B g w e w' := by
  obtain ⟨x, a, b, he, hL⟩ := h
  exact ⟨x, by unfold wide; omega, by unfold wide; omega, he, hL⟩
theorem Any64.ret {x : Int} {B g : Nat} {w w' : World} (h1 : -wide ≤ x) (h2 : x ≤ wide - 1) (h : Left B g w w') : Any64 B g w (.returned (.int .i64 x)) w' := ⟨x, h1, h2, rfl, h⟩
/-- A number from 0 to 1000000000000. -/
def Tera (B g : Nat) (w : World) (e : Ending) (w' : World) : Prop := Num 0 1000000000000 B g w e w'
theorem Tera.ret {x : Int} {B g : Nat} {w w' : World} (h1 : 0 ≤ x) (h2 : x ≤ 1000000000000) (h : Left B g w w') : Tera B g w (.returned (.int .i64 x)) w' := ⟨x, h1, h2, rfl, h⟩
theorem prod_le {x y : Int} (a : 0 ≤ x) (b : x ≤ 999999) (c : 0 ≤ y) (d : y ≤ 999999) : 0 ≤ x * y ∧ x * y ≤ 999998000001 := by
  refine ⟨Int.mul_nonneg a c, ?_⟩
  have h1 : x * y ≤ 999999 * y := Int.mul_le_mul_of_nonneg_right b c
  omega
/-! ### The cursor's making -/
/-- The bytes that came in. -/
def Code (w : World) (A : Option Addr) (n : Nat) : Prop := ∃ zs : List Nat, zs.length = n ∧ n ≤ 9223372036854775807 ∧ (∀ z ∈ zs, z ≤ 255) ∧ Rd w w.heap.size A (zs.map fun (z : Nat) => Value.int .u8 (z : Int))
/-- A slice of bytes that came in. -/
theorem open_code {H : Type} {enc : TypeId × Value → H} {W : World} {T E : TypeId} {v : Value} {d : DataW H} {p : List MemPlace} (ht : Try.prog.underlying T = some (.slice E)) (he : Try.prog.underlying E = some (.int .u8)) (hce : Try.prog.cellsOf E = 1)
    (h : DataW.Trod enc Try.prog W 0 (fun _ => true) true T v d p) (hv : v.cells.toList = [v]) (hlt : ∀ x ∈ p, x.block < W.heap.size) : ∃ A n c, v = .slice A n c ∧ Code W A n := by
  obtain ⟨fuel, hf⟩ := h
  rw [hv] at hf
  rcases ChangeShapes.open_ints ht he hce hf with ⟨hcs, -⟩ | ⟨a, len, cap, zs, hcs, -, hl, hm, hz, hx, hcell, hwf⟩
  · refine ⟨none, 0, 0, by simpa using hcs, [], rfl, by omega, by simp, Or.inl rfl⟩
  · simp only [if_true] at hz
    unfold maxLen at hm
    refine ⟨some a, len, cap, by simpa using hcs, (zs.take len).map Int.toNat, by simp; omega, by omega, ?_, ?_⟩
    · intro z hzm
      obtain ⟨y, hy, rfl⟩ := List.mem_map.1 hzm
      have := hwf y (List.mem_of_mem_take hy)
      have e1 : IntKind.u8.min = 0 := rfl
      have e2 : IntKind.u8.max = 255 := rfl
      simp [Lit.wf, e1, e2] at this
      omega
    · by_cases h0 : len = 0
      · left; subst h0; simp
      · right
        have hsp : a.spot = none := by simpa [Addr.add] using World.cell?_spot (hcell 0 (by omega))
        obtain ⟨b, off, spot⟩ := a
        simp only at hsp
        subst hsp
        refine ⟨b, off, rfl, ?_, fun j u hj => ?_⟩
        · have := hlt (.cell b off) (by
            have e := congrArg Prod.snd hx
            simp only at e
            rw [e]
            exact MemPlace.mem_row.2 ⟨0, by omega, by simp⟩)
          exact this
        · have hjl : j < len := by
            have := (List.getElem?_eq_some_iff.1 hj).1
            simp at this
            omega
          have hc := hcell j (by omega)
          have ea : (⟨b, off, none⟩ : Addr).add j = ⟨b, off + j, none⟩ := by
            unfold Addr.add
            split
            · rename_i h; subst h; rfl
            · rfl
          rw [ea] at hc
          rw [hc]
          have hw := hwf (zs[j]'(by omega)) (List.getElem_mem _)
          have e1 : IntKind.u8.min = 0 := rfl
          have e2 : IntKind.u8.max = 255 := rfl
          simp [Lit.wf, e1, e2] at hw
          have hjz : j < zs.length := by omega
          simp [hjl, List.getElem?_eq_getElem hjz] at hj
          subst hj
          simp [List.getD, List.getElem?_eq_getElem hjz]
          omega
/-- A new cursor, and what was there stands. -/
def Born (w : World) (e : Ending) (w' : World) : Prop := ∃ g, e = .returned (.pointer (some ⟨g, 0, none⟩)) ∧ Cur w' w.heap.size g ∧ Below w.heap.size w w'
theorem Born.ret {w : World} {A : Option Addr} {n c : Nat} {h : Int} (hc : Code w A n) : Born w (.returned (.pointer (some ⟨w.heap.size, 0, none⟩))) (w.alloc (.cells #[.slice A n c, .int .i64 0, .int .i64 h] 100)) := by
  obtain ⟨zs, hl, hn, hz, hR⟩ := hc
  exact ⟨_, rfl, ⟨A, n, c, zs, 0, h, heap_alloc_new _ _, hl, hn, hz, hR.below ((Below.refl _ _).alloc (Nat.le_refl _) _), Nat.zero_le _, Nat.le_refl _⟩, (Below.refl _ _).alloc (Nat.le_refl _) _⟩
set_option maxRecDepth 100000 in
set_option maxHeartbeats 1000000 in
theorem l1New (A : Option Addr) (n c : Nat) (w : World) (hc : Code w A n) (hn : n ≤ 1048576) : Calls Try.prog 41 #[.slice A n c] w (Born w) := by
  have HC := Lib.hid hc
  clear hc
  go_enter Try.func41, Try.ntmps41
  go_wp2
  go_loop [3, 4] (fun hv iv => ∃ (h : Int) (i : Nat), hv = .int .i64 h ∧ iv = .int .i64 i ∧ i ≤ n) (fun _ i => n - (intOf i).toNat)
  case atStart => exact ⟨_, 0, rfl, rfl, Nat.zero_le _⟩
  case round =>
    obtain ⟨h, i, rfl, rfl, hi⟩ := hrel
    by_cases hlt : i < n
    · by_cases hf : i < 4000
      · obtain ⟨zs, hl, -, hz, hR⟩ := HC.out
        have hx : i < (zs.map fun (z : Nat) => Value.int .u8 (z : Int)).length := by simpa [hl] using hlt
        obtain ⟨b, off, rfl, hbB, hcell⟩ := hR.at_ hx
        have hcell' : w.cell? ⟨b, off + i, none⟩ = some (.int .u8 ((zs[i]'(by omega) : Nat) : Int)) := by simpa using hcell
        have hzi : ((zs[i]'(by omega) : Nat) : Int) ≤ 255 := by have := hz _ (List.getElem_mem (by omega : i < zs.length)); omega
        generalize hzq : (zs[i]'(by omega) : Nat) = zi at *
        clear hcell hzq hR hz hl hx
        go_wp2
        go_round
        case rel => exact ⟨_, i + 1, rfl, by go_num, by omega⟩
        case measure => simp [intOf]; omega
      · go_wp2
        go_ret
        exact Born.ret HC.out
    · go_wp2
      go_ret
      exact Born.ret HC.out
end Go.Proofs.Ytaepconmjmcbdaa
