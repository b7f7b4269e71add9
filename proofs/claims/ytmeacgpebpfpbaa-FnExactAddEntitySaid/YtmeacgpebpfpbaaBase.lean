/- Of no program: what every law's row asks behind the walk, out of 'nothing that lay there has turned': the arguments read as they did, the result is true. No condition.
   The draws: a cursor over bytes: each draw returns a number in its range, and turns nothing but the cursor.
   Slices of integers: what reads as a list; what the call owns, in which blocks; how both are kept.
   Of no program: boxes (blocks of cells that a call has made), held over what makes memory; a new box that is stored into.
   Of no program: 'append' onto a slice of integers that the call owns, from whatever source.
   Of no program: slices of records of several cells: what reads as a list of records, what the call owns; 'append' onto it.
   The law's helpers over []uint8: copied anew, held against one another, marked, looked at again.
   The law's helpers over []int: copied anew, held against one another, marked, looked at again.
   Of no program: varints as lists. 'putU n': the groups of n; 'rdU': what is read off a list's head.
   What a law is handed: slices of integers that came in.
   The laws' own helpers: big, at, sameBytes, sameInts.
   Of the cursor: what stays while it turns. -/
import Derived.WalkKit
import Derived.ProofKit
import Derived.OpenShut
import Derived.Carry
import Derived.Deep.DeepHandedRow
import Derived.Test.YtmeacgpebpfpbaaProg
import Derived.LoopTactic
import Derived.Lib.Hide
import Derived.Deep.QuietTactic
import Derived.BigQuiet
import Derived.ChangeSlices
import Derived.Maps.AppendAt
import Derived.OwnWalk
import Derived.Laws.OwnMore
import Derived.Deep.AppendLies
import Derived.Laws.World
import Derived.Deep.RegionHeld
import Derived.RegionTactic
namespace Go.Proofs.Ytmeacgpebpfpbaa
open Go.ChangeShapes Go.WideShapes Go.ChangeAt Go.RowKit

theorem trodAll_below {H : Type} {enc : TypeId × Value → H} {P : Program} (hl : laidOutB P = true) {W W' : World} (hb : Below W.heap.size W W') :
    ∀ (ts : List TypeId) (vs : List Value) (ds : List (DataW H)) (ps : List MemPlace), (∀ t ∈ ts, P.readableRec t = true ∧ t < P.types.size) →
      DataW.TrodAll enc P W 0 (fun _ => true) true ts vs ds ps → (∀ x ∈ ps, x.block < W.heap.size) → DataW.TrodAll enc P W' 0 (fun b => decide (b < W.heap.size)) true ts vs ds ps
  | [], vs, ds, ps, _, h, _ => by
    obtain ⟨rfl, rfl, rfl⟩ := trodAll_nil h
    exact trodAll_mk0
  | t :: ts, vs, ds, ps, ht, h, hlt => by
    obtain ⟨v, vs', d, ds', p, q, rfl, rfl, rfl, h0, hr⟩ := trodAll_cons h
    exact trodAll_cons_mk (Below.trod hl (ht t (by simp)).1 (ht t (by simp)).2 h0 hb (fun x hx => hlt x (by simp [hx])))
      (trodAll_below hl hb ts vs' ds' q (fun t' h' => ht t' (by simp [h'])) hr (fun x hx => hlt x (by simp [hx])))

theorem law_post {H : Type} {enc : TypeId × Value → H} {P : Program} {f : Func} {s : ChangeSpec} {t : TypeId} {W W' : World} {args : Array Value} {ds gs : List (DataW H)} {ps : List MemPlace}
    (hl : laidOutB P = true) (hrd : f.params.toList.all (fun t => P.readableRec t && decide (t < P.types.size)) = true) (hres : f.resultTypes = #[t]) (ht : P.underlying t = some .bool)
    (hv : s.vars = []) (hr : (s.fn H ds).results = [.lit (.bool true)]) (ha : (s.fn H ds).args = ds) (hvv : (s.fn H ds).vars = [])
    (hW : DataW.Whole enc P f.params.toList s.vars false W args.toList ds gs ps) (hb : Below W.heap.size W W') : s.post enc P f false true false false W args (.bool true) W' := by
  have hW' := hW
  obtain ⟨p, q, hA, hV, rfl, _, _⟩ := hW
  rw [hv] at hV
  obtain ⟨rfl, rfl⟩ := trodVars_none hV
  refine ⟨ds, [], p ++ [], [], p, [], hW', ?_, ?_, ?_, hb.frame _, fun h => by cases h⟩
  · rw [List.append_nil, hr, hres]
    exact trodAll_mk1 (shut_bool ht _)
  · rw [List.append_nil, ha]
    refine trodAll_below hl hb _ _ _ _ (fun t h => ?_) hA (fun x hx => hW'.lt x (by simp [hx]))
    have := List.all_eq_true.1 hrd t h
    simpa using this
  · rw [hv, List.append_nil, hvv]
    rfl
end Go.Proofs.Ytmeacgpebpfpbaa
namespace Go.Proofs.Ytmeacgpebpfpbaa
open Go.RowKit

def Rd (w : World) (B : Nat) (A : Option Addr) (xs : List Value) : Prop := xs = [] ∨ ∃ b off, A = some ⟨b, off, none⟩ ∧ b < B ∧ ∀ j v, xs[j]? = some v → w.cell? ⟨b, off + j, none⟩ = some v
theorem Rd.at_ {w : World} {B : Nat} {A : Option Addr} {xs : List Value} (h : Rd w B A xs) {k : Nat} (hk : k < xs.length) :
    ∃ b off, A = some ⟨b, off, none⟩ ∧ b < B ∧ w.cell? ⟨b, off + k, none⟩ = some xs[k] := by
  rcases h with rfl | ⟨b, off, e, hb, hc⟩
  · simp at hk
  · exact ⟨b, off, e, hb, hc k _ (List.getElem?_eq_getElem hk)⟩
theorem Rd.below {w w' : World} {B : Nat} {A : Option Addr} {xs : List Value} (h : Rd w B A xs) (hb : Below B w w') : Rd w' B A xs := by
  rcases h with rfl | ⟨b, off, e, hlt, hc⟩
  · exact Or.inl rfl
  · exact Or.inr ⟨b, off, e, hlt, fun j v hj => (hb.cell (p := ⟨b, off + j, none⟩) hlt).trans (hc j v hj)⟩
theorem Rd.more {w : World} {B B' : Nat} {A : Option Addr} {xs : List Value} (h : Rd w B A xs) (hB : B ≤ B') : Rd w B' A xs := by
  rcases h with rfl | ⟨b, off, e, hlt, hc⟩
  · exact Or.inl rfl
  · exact Or.inr ⟨b, off, e, by omega, hc⟩

structure Turn (g : Nat) (w w' : World) : Prop where
  os : w'.os = w.os
  tape : w'.tape = w.tape
  output : w'.output = w.output
  size : w.heap.size ≤ w'.heap.size
  block : ∀ k, k < w.heap.size → k ≠ g → w'.heap[k]? = w.heap[k]?
theorem Turn.refl (g : Nat) (w : World) : Turn g w w := ⟨rfl, rfl, rfl, Nat.le_refl _, fun _ _ _ => rfl⟩
theorem Turn.trans {g : Nat} {a b c : World} (h : Turn g a b) (k : Turn g b c) : Turn g a c :=
  ⟨k.os.trans h.os, k.tape.trans h.tape, k.output.trans h.output, Nat.le_trans h.size k.size, fun i hi hg => (k.block i (Nat.lt_of_lt_of_le hi h.size) hg).trans (h.block i hi hg)⟩
theorem Turn.drewN {g : Nat} {a w : World} (h : Turn g a w) (n : Nat) : Turn g a (w.drewN n) := ⟨h.os, h.tape, h.output, h.size, h.block⟩
theorem Turn.alloc {g : Nat} {a w : World} (h : Turn g a w) (o : Obj) : Turn g a (w.alloc o) :=
  h.trans ⟨rfl, rfl, rfl, by simp, fun k hk _ => Below.heap_alloc _ _ _ hk⟩
theorem Turn.setCell {g : Nat} {a w : World} (h : Turn g a w) {p : Addr} (hp : p.block = g) (u : Value) : Turn g a (w.setCell p u) :=
  h.trans ⟨rfl, rfl, rfl, by simp [World.setCell], fun k _ hg => Below.heap_setCell _ _ _ _ (by rw [hp]; exact hg)⟩
theorem Turn.below {g B : Nat} {w w' : World} (h : Turn g w w') (hB : B ≤ g) (hs : B ≤ w.heap.size) : Below B w w' :=
  ⟨h.os, h.tape, h.output, h.size, fun k hk => h.block k (by omega) (by omega)⟩
theorem Turn.of_below {g : Nat} {w w' : World} (h : Below w.heap.size w w') : Turn g w w' := ⟨h.os, h.tape, h.output, h.size, fun k hk _ => h.block k hk⟩
theorem Turn.cell {g : Nat} {w w' : World} (h : Turn g w w') {p : Addr} (hp : p.block < w.heap.size) (hg : p.block ≠ g) : w'.cell? p = w.cell? p := World.cell?_of_block (w := w) (h.block p.block hp hg)
theorem Rd.turn {w w' : World} {B g : Nat} {A : Option Addr} {xs : List Value} (h : Rd w B A xs) (ht : Turn g w w') (hB : B ≤ g) (hs : B ≤ w.heap.size) : Rd w' B A xs := h.below (ht.below hB hs)

def Cur (w : World) (B g : Nat) : Prop :=
  ∃ (A : Option Addr) (n c : Nat) (zs : List Nat) (i : Nat) (h : Int), w.heap[g]? = some (.cells #[.slice A n c, .int .i64 i, .int .i64 h] 146 (0, 0)) ∧ zs.length = n ∧ n ≤ 9223372036854775807 ∧ (∀ z ∈ zs, z ≤ 255) ∧
    Rd w B A (zs.map fun (z : Nat) => Value.int .u8 (z : Int)) ∧ i ≤ n ∧ B ≤ g
theorem cell_set {w : World} {g o : Nat} {C : Array Value} {t : TypeId} {fz : Nat × Nat} (h : w.heap[g]? = some (.cells C t fz)) (v : Value) : (w.setCell ⟨g, o, none⟩ v).heap[g]? = some (.cells (C.setIfInBounds o v) t fz) := by
  have hlt : g < w.heap.size := by
    rcases Nat.lt_or_ge g w.heap.size with h' | h'
    · exact h'
    · simp [Array.getElem?_eq_none h'] at h
  have h' : w.heap[g] = .cells C t fz := by simpa [Array.getElem?_eq_getElem hlt] using h
  show (w.heap.modify g _)[g]? = _
  rw [Array.getElem?_eq_getElem (by simpa using hlt), Array.getElem_modify_self, h']
  rfl
theorem i64_and255 (n : Int) : bits .and .i64 n 255 = n % 256 := by
  have h255 : (BitVec.ofInt 64 255).toNat = 2 ^ 8 - 1 := by decide
  have key : (BitVec.ofInt 64 n &&& BitVec.ofInt 64 255).toNat = (n % ((2 ^ 64 : Nat) : Int)).toNat % 2 ^ 8 := by
    rw [BitVec.toNat_and, BitVec.toNat_ofInt, h255, Nat.and_two_pow_sub_one_eq_mod]
  show IntKind.i64.wrap ((BitVec.ofInt 64 n &&& BitVec.ofInt 64 255).toNat : Nat) = n % 256
  rw [key, IntKind.wrap_i64]
  omega
def Left (B g : Nat) (w w' : World) : Prop := Cur w' B g ∧ Turn g w w'
def Num (lo hi : Int) (B g : Nat) (w : World) (e : Ending) (w' : World) : Prop := ∃ x : Int, lo ≤ x ∧ x ≤ hi ∧ e = .returned (.int .i64 x) ∧ Left B g w w'
theorem num_255 (n : Int) {B g : Nat} {w w' : World} (h : Left B g w w') : Num 0 255 B g w (.returned (.int .i64 (bits .and .i64 n 255))) w' :=
  ⟨bits .and .i64 n 255, by rw [i64_and255]; omega, by rw [i64_and255]; omega, rfl, h⟩
theorem left_one {B g : Nat} {w : World} {A : Option Addr} {n c : Nat} {zs : List Nat} {i : Nat} {h : Int} (hg : w.heap[g]? = some (.cells #[.slice A n c, .int .i64 i, .int .i64 h] 146 (0, 0))) (hl : zs.length = n) (hn : n ≤ 9223372036854775807)
    (hz : ∀ z ∈ zs, z ≤ 255) (hR : Rd w B A (zs.map fun (z : Nat) => Value.int .u8 (z : Int))) (hi : i ≤ n) (hB : B ≤ g) (hs : B ≤ w.heap.size) (h' : Int) (k : Nat) : Left B g w ((w.setCell ⟨g, 2, none⟩ (.int .i64 h')).drewN k) := by
  have t : Turn g w ((w.setCell ⟨g, 2, none⟩ (.int .i64 h')).drewN k) := ((Turn.refl g w).setCell rfl _).drewN _
  exact ⟨⟨A, n, c, zs, i, h', cell_set hg _, hl, hn, hz, hR.turn t hB hs, hi, hB⟩, t⟩
theorem left_two {B g : Nat} {w : World} {A : Option Addr} {n c : Nat} {zs : List Nat} {i : Nat} {h : Int} (hg : w.heap[g]? = some (.cells #[.slice A n c, .int .i64 i, .int .i64 h] 146 (0, 0))) (hl : zs.length = n) (hn : n ≤ 9223372036854775807)
    (hz : ∀ z ∈ zs, z ≤ 255) (hR : Rd w B A (zs.map fun (z : Nat) => Value.int .u8 (z : Int))) (hi : i < n) (hB : B ≤ g) (hs : B ≤ w.heap.size) (h' : Int) (k : Nat) :
    Left B g w (((w.setCell ⟨g, 2, none⟩ (.int .i64 h')).drewN k).setCell ⟨g, 1, none⟩ (.int .i64 ((i : Int) + 1))) := by
  have t : Turn g w (((w.setCell ⟨g, 2, none⟩ (.int .i64 h')).drewN k).setCell ⟨g, 1, none⟩ (.int .i64 ((i : Int) + 1))) := (((Turn.refl g w).setCell rfl _).drewN _).setCell rfl _
  have h1 : ((w.setCell ⟨g, 2, none⟩ (.int .i64 h')).drewN k).heap[g]? = some (.cells #[.slice A n c, .int .i64 i, .int .i64 h'] 146 (0, 0)) := cell_set hg _
  exact ⟨⟨A, n, c, zs, i + 1, h', cell_set h1 _, hl, hn, hz, hR.turn t hB hs, by omega, hB⟩, t⟩
theorem Left.drewN {B g : Nat} {w w' : World} (h : Left B g w w') (k : Nat) : Left B g w (w'.drewN k) := ⟨h.1, h.2.drewN k⟩
theorem Left.trans {B g : Nat} {a b c : World} (h : Left B g a b) (k : Left B g b c) : Left B g a c := ⟨k.1, h.2.trans k.2⟩
set_option maxHeartbeats 1000000 in
theorem l1Byte (B g : Nat) (w : World) (hc : Cur w B g) : Calls Try.prog 114 #[.pointer (some ⟨g, 0, none⟩)] w (Num 0 255 B g w) := by
  obtain ⟨A, n, c, zs, i, h, hg, hl, hn, hz, hR, hi, hB⟩ := hc
  have c0 : w.cell? ⟨g, 0, none⟩ = some (.slice A n c) := by simp [World.cell?, hg]
  have c1 : w.cell? ⟨g, 1, none⟩ = some (.int .i64 i) := by simp [World.cell?, hg]
  have c2 : w.cell? ⟨g, 2, none⟩ = some (.int .i64 h) := by simp [World.cell?, hg]
  have f0 : ∀ o, w.frozen? ⟨g, o, none⟩ = false := by intro o; simp [World.frozen?, hg]
  have HG := Lib.hid hg
  have HR := Lib.hid hR
  have HZ := Lib.hid hz
  have hBs : B ≤ w.heap.size := by
    have : g < w.heap.size := by
      rcases Nat.lt_or_ge g w.heap.size with h' | h'
      · exact h'
      · simp [Array.getElem?_eq_none h'] at hg
    omega
  clear hg
  by_cases hlt : i < n
  · have hx : i < (zs.map fun (z : Nat) => Value.int .u8 (z : Int)).length := by simpa [hl] using hlt
    obtain ⟨b, off, rfl, hbB, hcell⟩ := hR.at_ hx
    have hcell' : w.cell? ⟨b, off + i, none⟩ = some (.int .u8 ((zs[i]'(by omega) : Nat) : Int)) := by simpa using hcell
    have hzi : ((zs[i]'(by omega) : Nat) : Int) ≤ 255 := by have := hz _ (List.getElem_mem (by omega : i < zs.length)); omega
    clear hcell
    have hbg : b ≠ g := by omega
    have hi1 : (0 : Int) ≤ (i : Int) := by omega
    have hi2 : (i : Int) < (n : Int) := by omega
    have hdl : decide (i < n) = true := by simpa using hlt
    generalize hzq : (zs[i]'(by omega) : Nat) = zi at *
    have HL := Lib.hid hl
    clear hzq hR hz hl
    go_enter Try.func114, Try.ntmps114
    go_wp2
    go_quiet (fail)
    go_wp2
    go_quiet (fail)
    go_wp2
    go_quiet (fail)
    go_wp2
    go_ret
    exact num_255 _ (left_two HG.out HL.out hn HZ.out HR.out hlt hB hBs _ _)
  · have hdl : decide (i < n) = false := by simpa using hlt
    have HL := Lib.hid hl
    clear hR hz hl
    go_enter Try.func114, Try.ntmps114
    go_wp2
    go_quiet (fail)
    go_wp2
    go_quiet (fail)
    go_wp2
    go_ret
    exact num_255 _ ((left_one HG.out HL.out hn HZ.out HR.out hi hB hBs _ _).drewN _)

theorem Num.ret {lo hi x : Int} {B g : Nat} {w w' : World} (h1 : lo ≤ x) (h2 : x ≤ hi) (h : Left B g w w') : Num lo hi B g w (.returned (.int .i64 x)) w' := ⟨x, h1, h2, rfl, h⟩
set_option maxHeartbeats 1000000 in
theorem l1Below (B g : Nat) (n : Int) (w : World) (h0 : 0 < n) (h1 : n ≤ 9223372036854775807) (hc : Cur w B g) : Calls Try.prog 52 #[.pointer (some ⟨g, 0, none⟩), .int .i64 n] w (Num 0 (n - 1) B g w) := by
  by_cases hs : n ≤ 256
  · go_enter Try.func52, Try.ntmps52
    go_wp2_with fail
    refine (l1Byte B g _ hc).mono ?_
    rintro e w1 ⟨x, hx0, hx1, rfl, hL1⟩
    go_wp2_with fail
    go_ret
    exact Num.ret (Int.emod_nonneg _ (by omega)) (by have := Int.emod_lt_of_pos x h0; omega) hL1
  · go_enter Try.func52, Try.ntmps52
    go_wp2_with fail
    refine (l1Byte B g _ hc).mono ?_
    rintro e w1 ⟨x, hx0, hx1, rfl, hL1⟩
    go_wp2_with fail
    refine (l1Byte B g _ hL1.1).mono ?_
    rintro e w2 ⟨y, hy0, hy1, rfl, hL2⟩
    go_wp2_with fail
    refine (l1Byte B g _ hL2.1).mono ?_
    rintro e w3 ⟨z, hz0, hz1, rfl, hL3⟩
    go_wp2_with fail
    go_ret
    exact Num.ret (Int.emod_nonneg _ (by omega)) (by have := Int.emod_lt_of_pos (x * 65536 + y * 256 + z) h0; omega) ((hL1.trans hL2).trans hL3)
def Maybe (B g : Nat) (w : World) (e : Ending) (w' : World) : Prop := ∃ b : Bool, e = .returned (.bool b) ∧ Left B g w w'
theorem Maybe.ret {b : Bool} {B g : Nat} {w w' : World} (h : Left B g w w') : Maybe B g w (.returned (.bool b)) w' := ⟨b, rfl, h⟩
theorem l1Once (B g : Nat) (n : Int) (w : World) (h0 : 0 < n) (h1 : n ≤ 9223372036854775807) (hc : Cur w B g) : Calls Try.prog 43 #[.pointer (some ⟨g, 0, none⟩), .int .i64 n] w (Maybe B g w) := by
  go_enter Try.func43, Try.ntmps43
  go_wp2_with fail
  refine (l1Below B g n _ h0 h1 hc).mono ?_
  rintro e w1 ⟨x, hx0, hx1, rfl, hL1⟩
  go_wp2_with fail
  go_ret
  exact Maybe.ret hL1
theorem Cur.alloc {w : World} {B g : Nat} (h : Cur w B g) (hs : B ≤ w.heap.size) (o : Obj) : Cur (w.alloc o) B g := by
  obtain ⟨A, n, c, zs, i, hh, hg, hl, hn, hz, hR, hi, hB⟩ := h
  have hlt : g < w.heap.size := by
    rcases Nat.lt_or_ge g w.heap.size with h' | h'
    · exact h'
    · simp [Array.getElem?_eq_none h'] at hg
  exact ⟨A, n, c, zs, i, hh, (Below.heap_alloc w o g hlt).trans hg, hl, hn, hz, hR.below ((Below.refl _ _).alloc hs _), hi, hB⟩
theorem Cur.lt {w : World} {B g : Nat} (h : Cur w B g) : g < w.heap.size := by
  obtain ⟨A, n, c, zs, i, hh, hg, -⟩ := h
  rcases Nat.lt_or_ge g w.heap.size with h' | h'
  · exact h'
  · simp [Array.getElem?_eq_none h'] at hg
theorem Left.after {B g : Nat} {w w' : World} (o : Obj) (k : Left B g (w.alloc o) w') : Left B g w w' := ⟨k.1, ((Turn.refl g w).alloc o).trans k.2⟩
def Str (m : Nat) (B g : Nat) (w : World) (e : Ending) (w' : World) : Prop := ∃ s : ByteArray, s.size ≤ m ∧ e = .returned (.string s) ∧ Left B g w w'
theorem Str.ret {m : Nat} {s : ByteArray} {B g : Nat} {w w' : World} (h1 : s.size ≤ m) (h : Left B g w w') : Str m B g w (.returned (.string s)) w' := ⟨s, h1, rfl, h⟩
def wide : Int := 9223372036854775808
def Any64 (B g : Nat) (w : World) (e : Ending) (w' : World) : Prop := Num (-wide) (wide - 1) B g w e w'
theorem Any64.of {lo hi : Int} {B g : Nat} {w w' : World} {e : Ending} (h : Num lo hi B g w e w') (h1 : -9223372036854775808 ≤ lo) (h2 : hi ≤ 9223372036854775807) : Any64 B g w e w' := by
  obtain ⟨x, a, b, he, hL⟩ := h
  exact ⟨x, by unfold wide; omega, by unfold wide; omega, he, hL⟩
theorem Any64.ret {x : Int} {B g : Nat} {w w' : World} (h1 : -wide ≤ x) (h2 : x ≤ wide - 1) (h : Left B g w w') : Any64 B g w (.returned (.int .i64 x)) w' := ⟨x, h1, h2, rfl, h⟩
def Tera (B g : Nat) (w : World) (e : Ending) (w' : World) : Prop := Num 0 1000000000000 B g w e w'
theorem Tera.ret {x : Int} {B g : Nat} {w w' : World} (h1 : 0 ≤ x) (h2 : x ≤ 1000000000000) (h : Left B g w w') : Tera B g w (.returned (.int .i64 x)) w' := ⟨x, h1, h2, rfl, h⟩
def Code (w : World) (A : Option Addr) (n : Nat) : Prop := ∃ zs : List Nat, zs.length = n ∧ n ≤ 9223372036854775807 ∧ (∀ z ∈ zs, z ≤ 255) ∧ Rd w w.heap.size A (zs.map fun (z : Nat) => Value.int .u8 (z : Int))
def Born (w : World) (e : Ending) (w' : World) : Prop := ∃ g, e = .returned (.pointer (some ⟨g, 0, none⟩)) ∧ Cur w' w.heap.size g ∧ Below w.heap.size w w'
theorem Born.ret {w : World} {A : Option Addr} {n c : Nat} {h : Int} (hc : Code w A n) : Born w (.returned (.pointer (some ⟨w.heap.size, 0, none⟩))) (w.alloc (.cells #[.slice A n c, .int .i64 0, .int .i64 h] 146)) := by
  obtain ⟨zs, hl, hn, hz, hR⟩ := hc
  exact ⟨_, rfl, ⟨A, n, c, zs, 0, h, heap_alloc_new _ _, hl, hn, hz, hR.below ((Below.refl _ _).alloc (Nat.le_refl _) _), Nat.zero_le _, Nat.le_refl _⟩, (Below.refl _ _).alloc (Nat.le_refl _) _⟩
end Go.Proofs.Ytmeacgpebpfpbaa
namespace Go.Proofs.Ytmeacgpebpfpbaa
open Go.RowKit

def Rz (k : IntKind) (w : World) (A : Option Addr) (n : Nat) (zs : List Int) : Prop := zs.length = n ∧ Rd w w.heap.size A (zs.map (Value.int k))
section
variable {k : IntKind} {w w' : World} {A : Option Addr} {n : Nat} {zs : List Int}
theorem Rz.below (h : Rz k w A n zs) (hb : Below w.heap.size w w') : Rz k w' A n zs := ⟨h.1, (h.2.below hb).more hb.size⟩
theorem Rz.drewN (h : Rz k w A n zs) (m : Nat) : Rz k (w.drewN m) A n zs := h
theorem Rz.alloc (h : Rz k w A n zs) (o : Obj) : Rz k (w.alloc o) A n zs := h.below ((Below.refl _ _).alloc (Nat.le_refl _) o)
theorem Rz.at_ (h : Rz k w A n zs) {i : Nat} (hi : i < n) : ∃ b off z, A = some ⟨b, off, none⟩ ∧ b < w.heap.size ∧ zs[i]? = some z ∧ w.cell? ⟨b, off + i, none⟩ = some (.int k z) := by
  have hl : i < zs.length := by rw [h.1]; exact hi
  obtain ⟨b, off, e, hb, hc⟩ := h.2.at_ (k := i) (by simpa using hl)
  exact ⟨b, off, zs[i], e, hb, List.getElem?_eq_getElem hl, by simpa using hc⟩
theorem Rz.nil : Rz k w A 0 [] := ⟨rfl, Or.inl rfl⟩
end

structure Step (lo hi : Nat) (w w' : World) : Prop where
  os : w'.os = w.os
  tape : w'.tape = w.tape
  output : w'.output = w.output
  size : w.heap.size ≤ w'.heap.size
  block : ∀ k, k < w.heap.size → (k < lo ∨ hi ≤ k) → w'.heap[k]? = w.heap[k]?
theorem Step.refl (lo hi : Nat) (w : World) : Step lo hi w w := ⟨rfl, rfl, rfl, Nat.le_refl _, fun _ _ _ => rfl⟩
theorem Step.trans {lo hi : Nat} {a b c : World} (h : Step lo hi a b) (k : Step lo hi b c) : Step lo hi a c :=
  ⟨k.os.trans h.os, k.tape.trans h.tape, k.output.trans h.output, Nat.le_trans h.size k.size, fun i hi hg => (k.block i (Nat.lt_of_lt_of_le hi h.size) hg).trans (h.block i hi hg)⟩
theorem Step.of_below {lo hi : Nat} {w w' : World} (h : Below w.heap.size w w') : Step lo hi w w' := ⟨h.os, h.tape, h.output, h.size, fun k hk _ => h.block k hk⟩
theorem Step.of_grown {lo hi : Nat} {w w' : World} {row : Option Nat} (h : w.grownBy w' row) (hr : ∀ g, row = some g → lo ≤ g ∧ g < hi) : Step lo hi w w' :=
  ⟨h.os, h.tape, h.output, h.size, fun k hk ho => h.block k hk (fun e => by have := hr k e.symm; omega)⟩
theorem Step.below {lo hi B : Nat} {W w w' : World} (h : Step lo hi w w') (hb : Below B W w) (hB : B ≤ lo) (hs : B ≤ w.heap.size) : Below B W w' :=
  hb.trans ⟨h.os, h.tape, h.output, h.size, fun k hk => h.block k (by omega) (by omega)⟩

def Own (k : IntKind) (E : TypeId) (lo hi : Nat) (w : World) (A : Option Addr) (n c : Nat) (zs : List Int) : Prop :=
  zs.length = n ∧ w.ownsRow lo E 1 (.slice A n c) n (zs.map (Value.int k)) ∧ hi ≤ w.heap.size ∧ ∀ a, A = some a → a.block < hi
section
variable {k : IntKind} {E : TypeId} {lo hi : Nat} {w w' : World} {A : Option Addr} {n c : Nat} {zs : List Int}
theorem Own.blk (h : Own k E lo hi w A n c zs) : ∀ g, (Value.slice A n c).ownBlock = some g → lo ≤ g ∧ g < hi := by
  intro g hg
  refine ⟨(h.2.1.lt g hg).1, ?_⟩
  cases A with
  | none => simp [Value.ownBlock] at hg
  | some a =>
    simp [Value.ownBlock] at hg
    have := h.2.2.2 a rfl
    omega
theorem Own.step {lo' hi' : Nat} (h : Own k E lo hi w A n c zs) (hs : Step lo' hi' w w') (hd : hi ≤ lo' ∨ hi' ≤ lo) : Own k E lo hi w' A n c zs := by
  refine ⟨h.1, ⟨h.2.1.1, ?_⟩, Nat.le_trans h.2.2.1 hs.size, h.2.2.2⟩
  rcases h.2.1.2 with hn | ⟨g, cap, cur, hv, hb, hgg, rest⟩
  · exact .inl hn
  · refine .inr ⟨g, cap, cur, hv, hb, ?_, rest⟩
    have hlt : g < hi := by
      injection hv with hA
      have := h.2.2.2 _ hA
      simpa using this
    rw [hs.block g (Array.getElem?_eq_some_iff.1 hgg).1 (by omega)]
    exact hgg
theorem Own.below (h : Own k E lo hi w A n c zs) (hb : Below w.heap.size w w') : Own k E lo hi w' A n c zs :=
  h.step (Step.of_below (lo := hi) (hi := hi) hb) (Or.inl (Nat.le_refl _))
theorem Own.drewN (h : Own k E lo hi w A n c zs) (m : Nat) : Own k E lo hi (w.drewN m) A n c zs := h
theorem Own.more {hi' : Nat} (h : Own k E lo hi w A n c zs) (hh : hi ≤ hi') (hs : hi' ≤ w.heap.size) : Own k E lo hi' w A n c zs := ⟨h.1, h.2.1, hs, fun a e => by have := h.2.2.2 a e; omega⟩
theorem Own.rz (h : Own k E lo hi w A n c zs) : Rz k w A n zs := by
  refine ⟨h.1, ?_⟩
  rcases h.2.1.2 with ⟨hv, hn⟩ | ⟨g, cap, cur, hv, hb, hgg, hnc, hcm, hcs, htk⟩
  · left
    have := h.1
    simp only [List.map_eq_nil_iff]
    exact List.eq_nil_of_length_eq_zero (by omega)
  · right
    injection hv with hA
    refine ⟨g, 0, hA, (Array.getElem?_eq_some_iff.1 hgg).1, fun j v hj => ?_⟩
    rw [Nat.zero_add, cell_of_row w g j cur E (0, 0) hgg, ← hj, ← htk, List.getElem?_take]
    have hjl : j < n * 1 := by
      have := (List.getElem?_eq_some_iff.1 hj).1
      have := h.2.1.1
      omega
    rw [if_pos hjl]
    simp
theorem Own.cap (h : Own k E lo hi w A n c zs) : n ≤ c ∧ c ≤ maxLen := by
  rcases h.2.1.2 with ⟨hv, hn⟩ | ⟨g, cap, cur, hv, hb, hgg, hnc, hcm, hcs, htk⟩
  · injection hv with _ _ h3
    unfold maxLen; omega
  · injection hv with _ _ h3
    subst h3
    exact ⟨hnc, hcm⟩
theorem Own.mk_ (v : Value) {m : Nat} {ys : List Value} (h : w.ownsRow lo E 1 v m ys) (hm : zs.length = m) (hy : ys = zs.map (Value.int k)) : ∃ A c, v = .slice A m c ∧ Own k E lo w.heap.size w A m c zs := by
  subst hy
  rcases h.2 with ⟨rfl, rfl⟩ | ⟨g, cap, cur, rfl, hb, hgg, rest⟩
  · exact ⟨none, 0, rfl, hm, h, Nat.le_refl _, fun a e => by cases e⟩
  · exact ⟨_, _, rfl, hm, h, Nat.le_refl _, fun a e => by
      obtain rfl := Option.some.inj e
      exact (Array.getElem?_eq_some_iff.1 hgg).1⟩
theorem Own.slot (h : Own k E lo hi w A n c zs) {i : Nat} (hi' : i < n) : ∃ g z, A = some ⟨g, 0, none⟩ ∧ lo ≤ g ∧ g < hi ∧ zs[i]? = some z ∧ w.cell? ⟨g, i, none⟩ = some (.int k z) ∧ w.frozen? ⟨g, i, none⟩ = false := by
  rcases h.2.1.2 with ⟨hv, hn⟩ | ⟨g, cap, cur, hv, hb, hgg, hnc, hcm, hcs, htk⟩
  · omega
  · injection hv with hA
    subst hA
    have hl : i < zs.length := by rw [h.1]; exact hi'
    have hc := h.2.1.cellAt i (by omega)
    refine ⟨g, zs[i], rfl, hb, h.2.2.2 _ rfl, List.getElem?_eq_getElem hl, ?_, h.2.1.frozenAt i⟩
    rw [hc]
    simp [hl]
theorem Own.store (h : Own k E lo hi w A n c zs) {g i : Nat} (hA : A = some ⟨g, 0, none⟩) (z : Int) : Own k E lo hi (w.setCell ⟨g, i, none⟩ (.int k z)) A n c (zs.set i z) ∧ Step lo hi w (w.setCell ⟨g, i, none⟩ (.int k z)) := by
  subst hA
  obtain ⟨h1, h2⟩ := h.2.1.stored i (.int k z)
  refine ⟨⟨by simpa using h.1, by rw [List.map_set]; exact h1, by simpa [World.setCell] using h.2.2.1, h.2.2.2⟩, Step.of_grown h2 ?_⟩
  intro g' hg
  obtain rfl := Option.some.inj hg
  exact h.blk g rfl
end

def Fresh (k : IntKind) (E : TypeId) (zs : List Int) (w : World) (e : Ending) (w' : World) : Prop :=
  ∃ A n c, e = .returned (.slice A n c) ∧ Own k E w.heap.size w'.heap.size w' A n c zs ∧ Below w.heap.size w w'
theorem Fresh.ret {k : IntKind} {E : TypeId} {zs : List Int} {w w' : World} {A : Option Addr} {n c : Nat} (h : Own k E w.heap.size w'.heap.size w' A n c zs) (hb : Below w.heap.size w w') : Fresh k E zs w (.returned (.slice A n c)) w' := ⟨A, n, c, rfl, h, hb⟩
def GivesInt (x : Int) (w : World) (e : Ending) (w' : World) : Prop := e = .returned (.int .i64 x) ∧ Below w.heap.size w w'
theorem GivesInt.ret {x y : Int} {w w' : World} (h : x = y) (hb : Below w.heap.size w w') : GivesInt y w (.returned (.int .i64 x)) w' := ⟨by rw [h], hb⟩
def GivesBool (b : Bool) (w : World) (e : Ending) (w' : World) : Prop := e = .returned (.bool b) ∧ Below w.heap.size w w'
theorem GivesBool.ret {b : Bool} {w w' : World} (hb : Below w.heap.size w w') : GivesBool b w (.returned (.bool b)) w' := ⟨rfl, hb⟩
theorem below_drewN {B : Nat} {a w : World} (h : Below B a w) (n : Nat) : Below B a (w.drewN n) := ⟨h.os, h.tape, h.output, h.size, h.block⟩
end Go.Proofs.Ytmeacgpebpfpbaa
namespace Go.Proofs.Ytmeacgpebpfpbaa
open Go.RowKit
def Box (b : Nat) (cs : List Value) (w : World) : Prop := b < w.heap.size ∧ ∀ i v, cs[i]? = some v → w.cell? ⟨b, i, none⟩ = some v
theorem Box.new (w : World) (cs : Array Value) (T : TypeId) : Box w.heap.size cs.toList (w.alloc (.cells cs T)) := by
  refine ⟨by simp, fun i v h => ?_⟩
  have e := cell_of_row (w.alloc (.cells cs T)) w.heap.size i cs T (0, 0) (by show (w.heap.push _)[w.heap.size]? = _; simp)
  rw [e]
  simpa using h
theorem Box.below {b : Nat} {cs : List Value} {w w' : World} (h : Box b cs w) (hb : Below w.heap.size w w') : Box b cs w' :=
  ⟨Nat.lt_of_lt_of_le h.1 hb.size, fun i v hv => (hb.cell (p := ⟨b, i, none⟩) h.1).trans (h.2 i v hv)⟩
theorem Box.alloc {b : Nat} {cs : List Value} {w : World} (h : Box b cs w) (o : Obj) : Box b cs (w.alloc o) := h.below ((Below.refl _ _).alloc (Nat.le_refl _) o)
theorem Box.drew {b : Nat} {cs : List Value} {w : World} (h : Box b cs w) : Box b cs w.drew := h
theorem Box.far {b g i : Nat} {cs : List Value} {w : World} (h : Box b cs w) (hg : g ≠ b) (u : Value) : Box b cs (w.setCell ⟨g, i, none⟩ u) :=
  ⟨by simpa [World.setCell] using h.1, fun j v hv => (World.cell?_setCell_far w ⟨g, i, none⟩ ⟨b, j, none⟩ u hg).trans (h.2 j v hv)⟩
def Held (W : World) (l : List (Nat × List Value)) (w : World) : Prop := Below W.heap.size W w ∧ ∀ p ∈ l, Box p.1 p.2 w
section
variable {W w w' : World} {l : List (Nat × List Value)}
theorem Held.start (W : World) : Held W [] W := ⟨Below.refl _ _, fun p h => by cases h⟩
theorem Held.below (h : Held W l w) (hb : Below w.heap.size w w') : Held W l w' := ⟨h.1.trans (hb.mono h.1.size), fun p hp => (h.2 p hp).below hb⟩
theorem Held.alloc (h : Held W l w) (o : Obj) : Held W l (w.alloc o) := h.below ((Below.refl _ _).alloc (Nat.le_refl _) o)
theorem Held.drew (h : Held W l w) : Held W l w.drew := ⟨h.1.drew, fun p hp => (h.2 p hp).drew⟩
theorem Held.push (h : Held W l w) (cs : Array Value) (T : TypeId) : Held W ((w.heap.size, cs.toList) :: l) (w.alloc (.cells cs T)) := by
  refine ⟨(h.alloc _).1, fun p hp => ?_⟩
  rcases List.mem_cons.1 hp with rfl | hp
  · exact Box.new w cs T
  · exact (h.alloc _).2 p hp
theorem Held.with {g : Nat} {cs : List Value} (h : Held W l w) (hb : Box g cs w) : Held W ((g, cs) :: l) w := by
  refine ⟨h.1, fun p hp => ?_⟩
  rcases List.mem_cons.1 hp with rfl | hp
  · exact hb
  · exact h.2 p hp
theorem Held.far {g i : Nat} (h : Held W l w) (hg : W.heap.size ≤ g) (hl : ∀ p ∈ l, g ≠ p.1) (u : Value) : Held W l (w.setCell ⟨g, i, none⟩ u) :=
  ⟨h.1.setCell hg u, fun p hp => (h.2 p hp).far (hl p hp) u⟩
theorem Held.box {g : Nat} {cs : List Value} (h : Held W l w) (hg : (g, cs) ∈ l) : Box g cs w := h.2 _ hg
theorem Held.at_ {g i : Nat} {cs : List Value} {v : Value} (h : Held W l w) (hg : (g, cs) ∈ l) (hv : cs[i]? = some v) : w.cell? ⟨g, i, none⟩ = some v := (h.2 _ hg).2 i v hv
theorem Held.low (h : Held W l w) : W.heap.size ≤ w.heap.size := h.1.size
end
def Zb (B g : Nat) (cs : List Value) (w : World) : Prop := B ≤ g ∧ Box g cs w ∧ ∀ j, w.frozen? ⟨g, j, none⟩ = false
section
variable {B g : Nat} {cs : List Value} {w w' : World}
theorem Zb.new (w : World) (cs : Array Value) (T : TypeId) (hB : B ≤ w.heap.size) : Zb B w.heap.size cs.toList (w.alloc (.cells cs T)) := by
  refine ⟨hB, Box.new w cs T, fun j => ?_⟩
  simp [go_sem]
theorem Zb.below (h : Zb B g cs w) (hb : Below w.heap.size w w') : Zb B g cs w' := ⟨h.1, h.2.1.below hb, fun j => (hb.frozen (p := ⟨g, j, none⟩) h.2.1.1).trans (h.2.2 j)⟩
theorem Zb.drew (h : Zb B g cs w) : Zb B g cs w.drew := h
theorem Zb.mk_ {cs : Array Value} {T : TypeId} (hb : Below (w.alloc (.cells cs T)).heap.size (w.alloc (.cells cs T)) w') (hB : B ≤ w.heap.size) : Zb B w.heap.size cs.toList w' := (Zb.new w cs T hB).below hb
theorem Zb.mkd {cs : Array Value} {T : TypeId} (hb : Below (w.alloc (.cells cs T)).drew.heap.size (w.alloc (.cells cs T)).drew w') (hB : B ≤ w.heap.size) : Zb B w.heap.size cs.toList w' := (Zb.new w cs T hB).drew.below hb
end
theorem Box.two {w : World} {g : Nat} {x y : Value} {l : List Value} (h : Box g (x :: y :: l) w) (a b : Value) : Box g [a, b] ((w.setCell ⟨g, 0, none⟩ a).setCell ⟨g, 1, none⟩ b) := by
  have n1 : (⟨g, 1, none⟩ : Addr) ≠ ⟨g, 0, none⟩ := by intro e; injection e; omega
  have h0 := h.2 0 x rfl
  have h1 := h.2 1 y rfl
  refine ⟨by simpa [World.setCell] using h.1, fun i v hv => ?_⟩
  match i, hv with
  | 0, hv =>
    obtain rfl : a = v := by simpa using hv
    rw [World.cell?_setCell_other (h := n1)]
    exact World.cell?_setCell_same _ _ _ h0
  | 1, hv =>
    obtain rfl : b = v := by simpa using hv
    exact World.cell?_setCell_same _ _ _ (u := y) (by rw [World.cell?_setCell_other (h := Ne.symm n1)]; exact h1)
theorem Zb.two {B g : Nat} {w : World} {x y : Value} (h : Zb B g [x, y] w) : w.cell? ⟨g, 0, none⟩ = some x ∧ w.cell? ⟨g, 1, none⟩ = some y ∧ w.frozen? ⟨g, 0, none⟩ = false ∧ w.frozen? ⟨g, 1, none⟩ = false :=
  ⟨h.2.1.2 0 x rfl, h.2.1.2 1 y rfl, h.2.2 0, h.2.2 1⟩
def Kept (W : World) (l : List (Nat × List Value)) (N : Nat) (w : World) : Prop := Held W l w ∧ N ≤ w.heap.size ∧ (∀ p ∈ l, p.1 < N) ∧ W.heap.size ≤ N
section
variable {W w w' : World} {l : List (Nat × List Value)} {N : Nat}
theorem Kept.start (h : Held W l w) (hN : w.heap.size = N) : Kept W l N w := by subst hN; exact ⟨h, Nat.le_refl _, fun p hp => (h.2 p hp).1, h.1.size⟩
theorem Kept.below (h : Kept W l N w) (hb : Below w.heap.size w w') : Kept W l N w' := ⟨h.1.below hb, Nat.le_trans h.2.1 hb.size, h.2.2⟩
theorem Kept.alloc (h : Kept W l N w) (o : Obj) : Kept W l N (w.alloc o) := h.below ((Below.refl _ _).alloc (Nat.le_refl _) o)
theorem Kept.drew (h : Kept W l N w) : Kept W l N w.drew := ⟨h.1.drew, h.2⟩
theorem Kept.and (hb : Below w.heap.size w w') (h : Kept W l N w) : Kept W l N w ∧ Kept W l N w' := ⟨h, h.below hb⟩
theorem Kept.low (h : Kept W l N w) : N ≤ w.heap.size := h.2.1
theorem Kept.put {g : Nat} {x y : Value} (h : Kept W l N w) (z : Zb N g [x, y] w) (a b : Value) : Held W ((g, [a, b]) :: l) ((w.setCell ⟨g, 0, none⟩ a).setCell ⟨g, 1, none⟩ b) :=
  ((h.1.far (Nat.le_trans h.2.2.2 z.1) (fun p hp => by have := h.2.2.1 p hp; have := z.1; omega) a).far (Nat.le_trans h.2.2.2 z.1) (fun p hp => by have := h.2.2.1 p hp; have := z.1; omega) b).with (z.2.1.two a b)
theorem Kept.push (h : Kept W l N w) (cs : Array Value) (T : TypeId) : Held W ((w.heap.size, cs.toList) :: l) (w.alloc (.cells cs T)) := h.1.push cs T
end
end Go.Proofs.Ytmeacgpebpfpbaa
namespace Go.Proofs.Ytmeacgpebpfpbaa
open Go.RowKit

theorem Own.alloc {k : IntKind} {E : TypeId} {lo hi : Nat} {w : World} {A : Option Addr} {n c : Nat} {zs : List Int} (h : Own k E lo hi w A n c zs) (o : Obj) : Own k E lo hi (w.alloc o) A n c zs :=
  h.below ((Below.refl _ _).alloc (Nat.le_refl _) o)
theorem Rz.one (k : IntKind) (w : World) (z : Int) (E : TypeId) : Rz k (w.alloc (.cells #[.int k z] E)) (some ⟨w.heap.size, 0, none⟩) 1 [z] := by
  refine ⟨rfl, Or.inr ⟨w.heap.size, 0, rfl, by simp, fun j v hj => ?_⟩⟩
  match j, hj with
  | 0, hj =>
    simp at hj
    subst hj
    simp
theorem Own.none_ (k : IntKind) (E : TypeId) (w : World) : Own k E w.heap.size (w.heap.size + 1) (w.alloc (.cells #[] E)) (some ⟨w.heap.size, 0, none⟩) 0 0 [] :=
  ⟨rfl, World.ownsRow_lit w #[] 0 (Nat.le_refl _) (by unfold maxLen; omega) rfl, by simp, fun a e => by obtain rfl := Option.some.inj e; simp⟩
theorem Own.nil_ (k : IntKind) (E : TypeId) (lo hi : Nat) (w : World) (hh : hi ≤ w.heap.size) : Own k E lo hi w none 0 0 [] :=
  ⟨rfl, World.ownsRow_nil w lo E 1, hh, fun a e => by cases e⟩
section
variable {P : Program} (w : World)
theorem run_append_of_nil (base : Nat) (t ty e : TypeId) (i : TypeInfo) (size : Nat) (ht : P.underlying t = some (.slice e)) (hi : P.info? e = some i)
    (v : Value) (n : Nat) (xs : List Value) (hown : w.ownsRow base e size v n xs) (c : Nat) : (Builtin.append_ #[t, t] ty #[v, .slice none 0 c]).run P w = .ok v w := by
  rcases hown.2 with ⟨rfl, rfl⟩ | ⟨g, cap, cur, rfl, _, _, hnc, _⟩
  · simp [Builtin.append_, run_underlying ht, sizeOf, typeInfo, hi, Builtin.lenOf, Builtin.firstCells]
  · simp [Builtin.append_, run_underlying ht, sizeOf, typeInfo, hi, Builtin.lenOf, Builtin.firstCells, hnc, storeCells]
end
end Go.Proofs.Ytmeacgpebpfpbaa
namespace Go.Proofs.Ytmeacgpebpfpbaa
open Go.RowKit

structure Lay (α : Type) where
  cells : α → List Value
  size : Nat
  pos : 0 < size
  len : ∀ a, (cells a).length = size
  one : ∀ a, ∀ u ∈ cells a, u.oneCell' = true
def Lay.flat {α : Type} (l : Lay α) (L : List α) : List Value := L.flatMap l.cells
section
variable {α : Type} (l : Lay α)
theorem Lay.flat_len (L : List α) : (l.flat L).length = L.length * l.size := by
  induction L with
  | nil => simp [Lay.flat]
  | cons a L ih =>
    have : l.flat (a :: L) = l.cells a ++ l.flat L := rfl
    rw [this, List.length_append, ih, l.len, List.length_cons, Nat.add_mul, Nat.one_mul]
    omega
theorem Lay.flat_one (a : α) : l.flat [a] = l.cells a := by simp [Lay.flat]
theorem Lay.flat_cons (a : α) (L : List α) : l.flat (a :: L) = l.cells a ++ l.flat L := rfl
theorem Lay.flat_at : ∀ (L : List α) (i j : Nat) (x : α), L[i]? = some x → j < l.size → (l.flat L)[i * l.size + j]? = (l.cells x)[j]?
  | [], i, j, x, h, _ => by simp at h
  | a :: L, 0, j, x, h, hj => by
    obtain rfl : a = x := by simpa using h
    rw [l.flat_cons, Nat.zero_mul, Nat.zero_add, List.getElem?_append_left (by rw [l.len]; exact hj)]
  | a :: L, i + 1, j, x, h, hj => by
    have h' : L[i]? = some x := by simpa using h
    rw [l.flat_cons, List.getElem?_append_right (by rw [l.len, Nat.add_mul]; omega), l.len]
    have e : (i + 1) * l.size + j - l.size = i * l.size + j := by rw [Nat.add_mul]; omega
    rw [e]
    exact Lay.flat_at L i j x h' hj
end

def FR {α : Type} (l : Lay α) (w : World) (A : Option Addr) (n : Nat) (L : List α) : Prop := L.length = n ∧ Rd w w.heap.size A (l.flat L)
section
variable {α : Type} {l : Lay α} {w w' : World} {A : Option Addr} {n : Nat} {L : List α}
theorem FR.below (h : FR l w A n L) (hb : Below w.heap.size w w') : FR l w' A n L := ⟨h.1, (h.2.below hb).more hb.size⟩
theorem FR.alloc (h : FR l w A n L) (o : Obj) : FR l (w.alloc o) A n L := h.below ((Below.refl _ _).alloc (Nat.le_refl _) o)
theorem FR.at_ (h : FR l w A n L) {i : Nat} (hi : i < n) : ∃ b off x, A = some ⟨b, off, none⟩ ∧ b < w.heap.size ∧ L[i]? = some x ∧ ∀ j v, (l.cells x)[j]? = some v → w.cell? ⟨b, off + (i * l.size + j), none⟩ = some v := by
  have hl : i < L.length := by rw [h.1]; exact hi
  have hx : L[i]? = some L[i] := List.getElem?_eq_getElem hl
  have hp := l.pos
  have h0 : i * l.size < (l.flat L).length := by
    rw [l.flat_len]
    exact Nat.mul_lt_mul_of_pos_right hl hp
  rcases h.2 with hn | ⟨b, off, e, hb, hc⟩
  · rw [hn] at h0; simp at h0
  · refine ⟨b, off, L[i], e, hb, hx, fun j v hj => hc _ v ?_⟩
    have hjl : j < l.size := by
      have := (List.getElem?_eq_some_iff.1 hj).1
      rw [l.len] at this
      exact this
    rw [l.flat_at L i j _ hx hjl]
    exact hj
theorem FR.nil : FR l w A 0 [] := ⟨rfl, Or.inl rfl⟩
theorem FR.one (l : Lay α) (w : World) (x : α) (E : TypeId) : FR l (w.alloc (.cells (l.cells x).toArray E)) (some ⟨w.heap.size, 0, none⟩) 1 [x] := by
  refine ⟨rfl, Or.inr ⟨w.heap.size, 0, rfl, by simp, fun j v hj => ?_⟩⟩
  rw [l.flat_one] at hj
  rw [Nat.zero_add, cell_of_row _ w.heap.size j (l.cells x).toArray E (0, 0) (by show (w.heap.push _)[w.heap.size]? = _; simp)]
  simpa using hj
end

def FO {α : Type} (l : Lay α) (E : TypeId) (lo hi : Nat) (w : World) (A : Option Addr) (n c : Nat) (L : List α) : Prop :=
  L.length = n ∧ w.ownsRow lo E l.size (.slice A n c) n (l.flat L) ∧ hi ≤ w.heap.size ∧ ∀ a, A = some a → a.block < hi
section
variable {α : Type} {l : Lay α} {E : TypeId} {lo hi : Nat} {w w' : World} {A : Option Addr} {n c : Nat} {L : List α}
theorem FO.blk (h : FO l E lo hi w A n c L) : ∀ g, (Value.slice A n c).ownBlock = some g → lo ≤ g ∧ g < hi := by
  intro g hg
  refine ⟨(h.2.1.lt g hg).1, ?_⟩
  cases A with
  | none => simp [Value.ownBlock] at hg
  | some a =>
    simp [Value.ownBlock] at hg
    have := h.2.2.2 a rfl
    omega
theorem FO.step {lo' hi' : Nat} (h : FO l E lo hi w A n c L) (hs : Step lo' hi' w w') (hd : hi ≤ lo' ∨ hi' ≤ lo) : FO l E lo hi w' A n c L := by
  refine ⟨h.1, ⟨h.2.1.1, ?_⟩, Nat.le_trans h.2.2.1 hs.size, h.2.2.2⟩
  rcases h.2.1.2 with hn | ⟨g, cap, cur, hv, hb, hgg, rest⟩
  · exact .inl hn
  · refine .inr ⟨g, cap, cur, hv, hb, ?_, rest⟩
    have hlt : g < hi := by
      injection hv with hA
      have := h.2.2.2 _ hA
      simpa using this
    rw [hs.block g (Array.getElem?_eq_some_iff.1 hgg).1 (by omega)]
    exact hgg
theorem FO.below (h : FO l E lo hi w A n c L) (hb : Below w.heap.size w w') : FO l E lo hi w' A n c L :=
  h.step (Step.of_below (lo := hi) (hi := hi) hb) (Or.inl (Nat.le_refl _))
theorem FO.more {hi' : Nat} (h : FO l E lo hi w A n c L) (hh : hi ≤ hi') (hs : hi' ≤ w.heap.size) : FO l E lo hi' w A n c L := ⟨h.1, h.2.1, hs, fun a e => by have := h.2.2.2 a e; omega⟩
theorem FO.fr (h : FO l E lo hi w A n c L) : FR l w A n L := by
  refine ⟨h.1, ?_⟩
  rcases h.2.1.2 with ⟨hv, hn⟩ | ⟨g, cap, cur, hv, hb, hgg, hnc, hcm, hcs, htk⟩
  · left
    have : L = [] := List.eq_nil_of_length_eq_zero (by have := h.1; omega)
    subst this
    rfl
  · right
    injection hv with hA
    refine ⟨g, 0, hA, (Array.getElem?_eq_some_iff.1 hgg).1, fun j v hj => ?_⟩
    rw [Nat.zero_add, cell_of_row w g j cur E (0, 0) hgg, ← hj, ← htk, List.getElem?_take]
    have hjl : j < n * l.size := by
      have h1 := (List.getElem?_eq_some_iff.1 hj).1
      have h2 := h.2.1.1
      omega
    rw [if_pos hjl]
    simp
theorem FO.cap (h : FO l E lo hi w A n c L) : n ≤ c ∧ c ≤ maxLen := by
  rcases h.2.1.2 with ⟨hv, hn⟩ | ⟨g, cap, cur, hv, hb, hgg, hnc, hcm, hcs, htk⟩
  · injection hv with _ _ h3
    unfold maxLen; omega
  · injection hv with _ _ h3
    subst h3
    exact ⟨hnc, hcm⟩
theorem FO.mk_ (v : Value) {m : Nat} {ys : List Value} (h : w.ownsRow lo E l.size v m ys) (hm : L.length = m) (hy : ys = l.flat L) : ∃ A c, v = .slice A m c ∧ FO l E lo w.heap.size w A m c L := by
  subst hy
  rcases h.2 with ⟨rfl, rfl⟩ | ⟨g, cap, cur, rfl, hb, hgg, rest⟩
  · exact ⟨none, 0, rfl, hm, h, Nat.le_refl _, fun a e => by cases e⟩
  · exact ⟨_, _, rfl, hm, h, Nat.le_refl _, fun a e => by
      obtain rfl := Option.some.inj e
      exact (Array.getElem?_eq_some_iff.1 hgg).1⟩
theorem FO.slot (h : FO l E lo hi w A n c L) {i : Nat} (hi' : i < n) : ∃ g x, A = some ⟨g, 0, none⟩ ∧ lo ≤ g ∧ g < hi ∧ L[i]? = some x ∧
    (∀ j v, (l.cells x)[j]? = some v → w.cell? ⟨g, i * l.size + j, none⟩ = some v) ∧ ∀ j, w.frozen? ⟨g, j, none⟩ = false := by
  have hx : L[i]? = some (L[i]'(by rw [h.1]; exact hi')) := List.getElem?_eq_getElem _
  rcases h.2.1.2 with ⟨hv, hn⟩ | ⟨g, cap, cur, hv, hb, hgg, hnc, hcm, hcs, htk⟩
  · omega
  · injection hv with hA
    subst hA
    refine ⟨g, _, rfl, hb, h.2.2.2 _ rfl, hx, fun j v hj => ?_, fun j => h.2.1.frozenAt j⟩
    have hjl : j < l.size := by
      have := (List.getElem?_eq_some_iff.1 hj).1
      rw [l.len] at this
      exact this
    have hlt : i * l.size + j < n * l.size := by
      have : (i + 1) * l.size ≤ n * l.size := Nat.mul_le_mul_right _ hi'
      rw [Nat.add_mul] at this
      omega
    rw [h.2.1.cellAt _ hlt, l.flat_at L i j _ hx hjl]
    exact hj
theorem FO.alloc (h : FO l E lo hi w A n c L) (o : Obj) : FO l E lo hi (w.alloc o) A n c L := h.below ((Below.refl _ _).alloc (Nat.le_refl _) o)
theorem FO.none_ (l : Lay α) (E : TypeId) (w : World) : FO l E w.heap.size (w.heap.size + 1) (w.alloc (.cells #[] E)) (some ⟨w.heap.size, 0, none⟩) 0 0 [] :=
  ⟨rfl, World.ownsRow_lit w #[] 0 (Nat.le_refl _) (by unfold maxLen; omega) (by simp), by simp, fun a e => by obtain rfl := Option.some.inj e; simp⟩
theorem FO.nil_ (l : Lay α) (E : TypeId) (lo hi : Nat) (w : World) (hh : hi ≤ w.heap.size) : FO l E lo hi w none 0 0 [] :=
  ⟨rfl, World.ownsRow_nil w lo E l.size, hh, fun a e => by cases e⟩
end
def putCells (w : World) (g o : Nat) : List Value → World
  | [] => w
  | v :: vs => putCells (w.setCell ⟨g, o, none⟩ v) g (o + 1) vs
def setRange (xs : List Value) (o : Nat) : List Value → List Value
  | [] => xs
  | v :: vs => setRange (xs.set o v) (o + 1) vs
theorem setRange_len : ∀ (vs xs : List Value) (o : Nat), (setRange xs o vs).length = xs.length
  | [], _, _ => rfl
  | v :: vs, xs, o => by rw [setRange, setRange_len vs, List.length_set]
theorem setRange_at : ∀ (vs xs : List Value) (o j : Nat), o + vs.length ≤ xs.length → (setRange xs o vs)[j]? = if o ≤ j ∧ j < o + vs.length then vs[j - o]? else xs[j]?
  | [], xs, o, j, _ => by
    rw [if_neg (by rw [List.length_nil]; omega)]
    rfl
  | v :: vs, xs, o, j, h => by
    rw [List.length_cons] at h
    rw [setRange, setRange_at vs (xs.set o v) (o + 1) j (by rw [List.length_set]; omega), List.length_cons]
    by_cases h1 : o + 1 ≤ j ∧ j < o + 1 + vs.length
    · rw [if_pos h1, if_pos (by omega)]
      have e : j - o = (j - (o + 1)) + 1 := by omega
      rw [e, List.getElem?_cons_succ]
    · rw [if_neg h1, List.getElem?_set]
      by_cases h2 : o = j
      · subst h2
        rw [if_pos rfl, if_pos (by omega), if_pos (by omega)]
        simp
      · rw [if_neg h2, if_neg (by omega)]
section
variable {α : Type} {l : Lay α}
theorem flat_set (l : Lay α) (L : List α) (i : Nat) (x : α) (hi : i < L.length) : l.flat (L.set i x) = setRange (l.flat L) (i * l.size) (l.cells x) := by
  have hmul : (i + 1) * l.size ≤ L.length * l.size := Nat.mul_le_mul_right _ hi
  rw [Nat.add_mul, Nat.one_mul] at hmul
  apply List.ext_getElem?
  intro j
  rw [setRange_at _ _ _ _ (by rw [l.len, l.flat_len]; exact hmul), l.len]
  by_cases hj : j < L.length * l.size
  · have hp := l.pos
    have hq : j / l.size < L.length := Nat.div_lt_of_lt_mul (by rw [Nat.mul_comm]; exact hj)
    have hr : j % l.size < l.size := Nat.mod_lt _ hp
    have e : j = j / l.size * l.size + j % l.size := by rw [Nat.mul_comm]; exact (Nat.div_add_mod _ _).symm
    by_cases hij : i = j / l.size
    · have hx : (L.set i x)[j / l.size]? = some x := by rw [← hij, List.getElem?_set, if_pos rfl, if_pos hi]
      rw [← hij] at e
      rw [if_pos (by omega)]
      have h1 := l.flat_at (L.set i x) (j / l.size) (j % l.size) x hx hr
      rw [← hij, ← e] at h1
      rw [h1]
      congr 1
      omega
    · have hx : (L.set i x)[j / l.size]? = some (L[j / l.size]'hq) := by rw [List.getElem?_set, if_neg hij, List.getElem?_eq_getElem hq]
      have h1 := l.flat_at (L.set i x) (j / l.size) (j % l.size) _ hx hr
      have h2 := l.flat_at L (j / l.size) (j % l.size) _ (List.getElem?_eq_getElem hq) hr
      rw [← e] at h1 h2
      rw [h1, ← h2, if_neg ?_]
      intro hc
      have hcase : i + 1 ≤ j / l.size ∨ j / l.size + 1 ≤ i := by omega
      rcases hcase with hcase | hcase
      · have := Nat.mul_le_mul_right l.size hcase
        rw [Nat.add_mul, Nat.one_mul] at this
        omega
      · have := Nat.mul_le_mul_right l.size hcase
        rw [Nat.add_mul, Nat.one_mul] at this
        omega
  · rw [List.getElem?_eq_none (by rw [l.flat_len, List.length_set]; omega), if_neg (by omega), List.getElem?_eq_none (by rw [l.flat_len]; omega)]
theorem ownsRow_put : ∀ (vs : List Value) {w : World} {base : Nat} {e : TypeId} {size g n cap : Nat} {xs : List Value} (o : Nat), w.ownsRow base e size (.slice (some ⟨g, 0, none⟩) n cap) n xs →
    (putCells w g o vs).ownsRow base e size (.slice (some ⟨g, 0, none⟩) n cap) n (setRange xs o vs) ∧ w.grownBy (putCells w g o vs) (some g)
  | [], w, _, _, _, g, _, _, _, _, h => ⟨h, World.grownBy.refl w _⟩
  | v :: vs, w, base, e, size, g, n, cap, xs, o, h => by
    obtain ⟨h1, h2⟩ := h.stored o v
    obtain ⟨h3, h4⟩ := ownsRow_put vs (o + 1) h1
    exact ⟨h3, ⟨h4.os.trans h2.os, h4.tape.trans h2.tape, h4.output.trans h2.output, Nat.le_trans h2.size h4.size, fun k hk hne => (h4.block k (Nat.lt_of_lt_of_le hk h2.size) hne).trans (h2.block k hk hne)⟩⟩
theorem putCells_size : ∀ (vs : List Value) (w : World) (g o : Nat), (putCells w g o vs).heap.size = w.heap.size
  | [], _, _, _ => rfl
  | v :: vs, w, g, o => by rw [putCells, putCells_size vs]; simp [World.setCell]
theorem FO.put {E : TypeId} {lo hi : Nat} {w : World} {A : Option Addr} {n c : Nat} {L : List α} (h : FO l E lo hi w A n c L) {g i : Nat} (hA : A = some ⟨g, 0, none⟩) (hi' : i < n) (x : α) :
    FO l E lo hi (putCells w g (i * l.size) (l.cells x)) A n c (L.set i x) ∧ Step lo hi w (putCells w g (i * l.size) (l.cells x)) := by
  subst hA
  obtain ⟨h1, h2⟩ := ownsRow_put (l.cells x) (i * l.size) h.2.1
  refine ⟨⟨by rw [List.length_set]; exact h.1, by rw [flat_set l L i x (by rw [h.1]; exact hi')]; exact h1, by rw [putCells_size]; exact h.2.2.1, h.2.2.2⟩, Step.of_grown h2 ?_⟩
  intro g' hg
  obtain rfl := Option.some.inj hg
  exact h.blk g rfl
end
def FFresh {α : Type} (l : Lay α) (E : TypeId) (L : List α) (w : World) (e : Ending) (w' : World) : Prop :=
  ∃ A n c, e = .returned (.slice A n c) ∧ FO l E w.heap.size w'.heap.size w' A n c L ∧ Below w.heap.size w w'
theorem FFresh.ret {α : Type} {l : Lay α} {E : TypeId} {L : List α} {w w' : World} {A : Option Addr} {n c : Nat} (h : FO l E w.heap.size w'.heap.size w' A n c L) (hb : Below w.heap.size w w') : FFresh l E L w (.returned (.slice A n c)) w' := ⟨A, n, c, rfl, h, hb⟩
section
variable {P : Program} (w : World)
end
end Go.Proofs.Ytmeacgpebpfpbaa
namespace Go.Proofs.Ytmeacgpebpfpbaa
open Go.RowKit
def UptoB (w : World) (zs : List Int) (n i : Nat) (wr : World) : Prop :=
  ∃ ys : List Int, Own .u8 5 w.heap.size (w.heap.size + 1) wr (some ⟨w.heap.size, 0, none⟩) n n ys ∧ (∀ j, j < i → ys[j]? = zs[j]?) ∧ Below w.heap.size w wr
theorem UptoB.next {w wr : World} {zs : List Int} {n i : Nat} {z : Int} (h : UptoB w zs n i wr) (hz : zs[i]? = some z) (hi : i < n) : UptoB w zs n (i + 1) (wr.setCell ⟨w.heap.size, i, none⟩ (.int .u8 z)) := by
  obtain ⟨ys, hO, hy, hb⟩ := h
  obtain ⟨h1, h2⟩ := hO.store (i := i) rfl z
  refine ⟨_, h1, fun j hj => ?_, h2.below hb (Nat.le_refl _) hb.size⟩
  rw [List.getElem?_set]
  by_cases e : i = j
  · subst e
    rw [if_pos rfl, if_pos (by have := hO.1; omega), hz]
  · rw [if_neg e]
    exact hy j (by omega)
theorem UptoB.ret {w wr : World} {zs : List Int} {n : Nat} (h : UptoB w zs n n wr) (hn : zs.length = n) : Fresh .u8 5 zs w (.returned (.slice (some ⟨w.heap.size, 0, none⟩) n n)) wr := by
  obtain ⟨ys, hO, hy, hb⟩ := h
  have e : ys = zs := by
    apply List.ext_getElem?
    intro j
    by_cases hj : j < n
    · exact hy j hj
    · rw [List.getElem?_eq_none (by have := hO.1; omega), List.getElem?_eq_none (by omega)]
  subst e
  have hs := hO.2.2.1
  exact Fresh.ret (hO.more hs (Nat.le_refl _)) hb
theorem zs_ext {zs ys : List Int} {n : Nat} (h : zs.length = n) (h' : ys.length = n) (hs : ∀ j, j < n → zs[j]? = ys[j]?) : zs = ys := by
  apply List.ext_getElem?
  intro j
  by_cases hj : j < n
  · exact hs j hj
  · rw [List.getElem?_eq_none (by omega), List.getElem?_eq_none (by omega)]
def marksB (m : Int) (n : Nat) : List Int := (List.range n).map fun (i : Nat) => (m + (i : Int)) % 256
theorem marksB_len (m : Int) (n : Nat) : (marksB m n).length = n := by simp [marksB]
theorem marksB_at (m : Int) (n i : Nat) (h : i < n) : (marksB m n)[i]? = some ((m + (i : Int)) % 256) := by simp [marksB, h]
def MarkB (lo hi : Nat) (w : World) (A : Option Addr) (n c : Nat) (m : Int) (i : Nat) (wr : World) : Prop :=
  ∃ ys : List Int, Own .u8 5 lo hi wr A n c ys ∧ (∀ j, j < i → ys[j]? = (marksB m n)[j]?) ∧ Step lo hi w wr
theorem MarkB.next {lo hi : Nat} {w wr : World} {g n c : Nat} {m : Int} {i : Nat} (h : MarkB lo hi w (some ⟨g, 0, none⟩) n c m i wr) (hi' : i < n) : MarkB lo hi w (some ⟨g, 0, none⟩) n c m (i + 1) (wr.setCell ⟨g, i, none⟩ (.int .u8 ((m + (i : Int)) % 256))) := by
  obtain ⟨ys, hO, hy, hb⟩ := h
  obtain ⟨h1, h2⟩ := hO.store (i := i) rfl ((m + (i : Int)) % 256)
  refine ⟨_, h1, fun j hj => ?_, hb.trans h2⟩
  rw [List.getElem?_set]
  by_cases e : i = j
  · subst e
    rw [if_pos rfl, if_pos (by have := hO.1; omega), marksB_at _ _ _ hi']
  · rw [if_neg e]
    exact hy j (by omega)
def MarkedB (lo hi : Nat) (w : World) (A : Option Addr) (n c : Nat) (m : Int) (e : Ending) (w' : World) : Prop :=
  e = .returned (.int .i64 (m + (n : Int))) ∧ Own .u8 5 lo hi w' A n c (marksB m n) ∧ Step lo hi w w'
theorem MarkB.ret {lo hi : Nat} {w wr : World} {A : Option Addr} {n c : Nat} {m : Int} (h : MarkB lo hi w A n c m n wr) : MarkedB lo hi w A n c m (.returned (.int .i64 (m + (n : Int)))) wr := by
  obtain ⟨ys, hO, hy, hb⟩ := h
  obtain rfl : ys = marksB m n := zs_ext hO.1 (marksB_len m n) hy
  exact ⟨rfl, hO, hb⟩
end Go.Proofs.Ytmeacgpebpfpbaa
namespace Go.Proofs.Ytmeacgpebpfpbaa
open Go.RowKit
theorem infoI : (Try.prog.info? 3).map (fun i => (i.zero, i.size, i.bytes)) = some (some (.int .i64 0), 1, 8) := by kernel_rfl

def UptoI (w : World) (zs : List Int) (n i : Nat) (wr : World) : Prop :=
  ∃ ys : List Int, Own .i64 3 w.heap.size (w.heap.size + 1) wr (some ⟨w.heap.size, 0, none⟩) n n ys ∧ (∀ j, j < i → ys[j]? = zs[j]?) ∧ Below w.heap.size w wr
theorem UptoI.next {w wr : World} {zs : List Int} {n i : Nat} {z : Int} (h : UptoI w zs n i wr) (hz : zs[i]? = some z) (hi : i < n) : UptoI w zs n (i + 1) (wr.setCell ⟨w.heap.size, i, none⟩ (.int .i64 z)) := by
  obtain ⟨ys, hO, hy, hb⟩ := h
  obtain ⟨h1, h2⟩ := hO.store (i := i) rfl z
  refine ⟨_, h1, fun j hj => ?_, h2.below hb (Nat.le_refl _) hb.size⟩
  rw [List.getElem?_set]
  by_cases e : i = j
  · subst e
    rw [if_pos rfl, if_pos (by have := hO.1; omega), hz]
  · rw [if_neg e]
    exact hy j (by omega)
theorem UptoI.ret {w wr : World} {zs : List Int} {n : Nat} (h : UptoI w zs n n wr) (hn : zs.length = n) : Fresh .i64 3 zs w (.returned (.slice (some ⟨w.heap.size, 0, none⟩) n n)) wr := by
  obtain ⟨ys, hO, hy, hb⟩ := h
  have e : ys = zs := by
    apply List.ext_getElem?
    intro j
    by_cases hj : j < n
    · exact hy j hj
    · rw [List.getElem?_eq_none (by have := hO.1; omega), List.getElem?_eq_none (by omega)]
  subst e
  have hs := hO.2.2.1
  exact Fresh.ret (hO.more hs (Nat.le_refl _)) hb
set_option maxHeartbeats 1000000 in
theorem toI (A : Option Addr) (n c : Nat) (zs : List Int) (w : World) (h : Rz .i64 w A n zs) (hn : n ≤ 1099511627776) : Calls Try.prog 22 #[.slice A n c] w (Fresh .i64 3 zs w) := by
  obtain ⟨i0, hi, hz0, hz1, hz2⟩ := info_parts infoI
  have H := Lib.hid h
  clear h
  go_enter Try.func22, Try.ntmps22
  go_wp2_with (refine wpList_make_full _ rfl _ _ 43 rfl w.heap.size 3 i0 (.int .i64 0) 1 Try.underlying43 hi hz0 hz1 _ _ (n : Int) (n : Int) n rfl rfl rfl rfl (by rw [hz2]; omega) (by unfold maxLen; omega) (Nat.le_refl _) ?_)
  intro w1 hown hgrow
  have hU : UptoI w zs n 0 w1 := by
    have hb := (Below.refl w.heap.size w).grown hgrow (Nat.le_refl _) (fun k h => by cases h)
    refine ⟨List.replicate n 0, ⟨by simp, ?_, ?_, ?_⟩, fun j hj => by omega, hb⟩
    · have e : (List.replicate n (0 : Int)).map (Value.int .i64) = (madeCells #[.int .i64 0] n).toList := by
        rw [toList_madeCells_one]; simp
      rw [e]; exact hown
    · have := (hown.lt w.heap.size rfl).2; omega
    · intro a e
      obtain rfl := Option.some.inj e
      simp
  clear hown hgrow
  go_wp2
  go_loopw [4] (fun iv wr => ∃ i : Nat, i ≤ n ∧ iv = .int .i64 i ∧ UptoI w zs n i wr) (fun iv _ => n - (intOf iv).toNat)
  case atStart => exact ⟨0, Nat.zero_le _, rfl, hU⟩
  case round =>
    obtain ⟨i, hin, rfl, hUr⟩ := hrel
    clear hU
    by_cases hlt : i < n
    · have hUr' := Lib.hid hUr
      obtain ⟨ys, hO, -, hb⟩ := hUr
      obtain ⟨b, off, z, rfl, hbw, hzi, hcell⟩ := (H.out.below hb).at_ hlt
      obtain ⟨g, y, hg, -, -, -, hcell2, hfz⟩ := hO.slot hlt
      injection hg with hg
      injection hg with hg
      subst hg
      have hZ := Lib.hid hzi
      have hB := Lib.hid hb
      have hOO := Lib.hid hO
      clear hzi hb hO
      go_wp2
      go_roundw
      case rel => exact ⟨i + 1, by omega, by go_num, hUr'.out.next hZ.out hlt⟩
      case measure => simp [intOf]; omega
    · have : i = n := by omega
      subst this
      have hUr' := Lib.hid hUr
      clear hUr
      go_wp2
      go_ret
      exact hUr'.out.ret H.out.1

set_option maxHeartbeats 1000000 in
theorem eqI (A A' : Option Addr) (n n' c c' : Nat) (zs zs' : List Int) (w : World) (h : Rz .i64 w A n zs) (h' : Rz .i64 w A' n' zs') (he : zs = zs') (hn : n ≤ 1099511627776) :
    Calls Try.prog 24 #[.slice A n c, .slice A' n' c'] w (GivesBool true w) := by
  obtain rfl : n = n' := by rw [← h.1, ← h'.1, he]
  subst he
  have H := Lib.hid h
  have H' := Lib.hid h'
  clear h h'
  go_enter Try.func24, Try.ntmps24
  go_wp2
  go_loopw [5] (fun iv wr => ∃ i : Nat, i ≤ n ∧ iv = .int .i64 i ∧ Below w.heap.size w wr) (fun iv _ => n - (intOf iv).toNat)
  case atStart => exact ⟨0, Nat.zero_le _, rfl, Below.refl _ _⟩
  case round =>
    obtain ⟨i, hin, rfl, hb⟩ := hrel
    by_cases hlt : i < n
    · obtain ⟨b, off, z, rfl, hbw, hzi, hcell⟩ := (H.out.below hb).at_ hlt
      obtain ⟨b', off', z', rfl, hbw', hzi', hcell'⟩ := (H'.out.below hb).at_ hlt
      obtain rfl : z = z' := by rw [hzi] at hzi'; exact Option.some.inj hzi'
      have hB := Lib.hid hb
      clear hzi hzi' hb
      go_wp2
      go_quiet (fail)
      go_wp2
      go_roundw
      case rel => exact ⟨i + 1, by omega, by go_num, below_drewN hB.out _⟩
      case measure => simp [intOf]; omega
    · have hB := Lib.hid hb
      clear hb
      go_wp2
      go_ret
      exact GivesBool.ret hB.out
def marksI (m : Int) (n : Nat) : List Int := (List.range n).map fun (i : Nat) => m + (i : Int)
theorem marksI_len (m : Int) (n : Nat) : (marksI m n).length = n := by simp [marksI]
theorem marksI_at (m : Int) (n i : Nat) (h : i < n) : (marksI m n)[i]? = some (m + (i : Int)) := by simp [marksI, h]
def MarkI (lo hi : Nat) (w : World) (A : Option Addr) (n c : Nat) (m : Int) (i : Nat) (wr : World) : Prop :=
  ∃ ys : List Int, Own .i64 3 lo hi wr A n c ys ∧ (∀ j, j < i → ys[j]? = (marksI m n)[j]?) ∧ Step lo hi w wr
theorem MarkI.next {lo hi : Nat} {w wr : World} {g n c : Nat} {m : Int} {i : Nat} (h : MarkI lo hi w (some ⟨g, 0, none⟩) n c m i wr) (hi' : i < n) : MarkI lo hi w (some ⟨g, 0, none⟩) n c m (i + 1) (wr.setCell ⟨g, i, none⟩ (.int .i64 (m + (i : Int)))) := by
  obtain ⟨ys, hO, hy, hb⟩ := h
  obtain ⟨h1, h2⟩ := hO.store (i := i) rfl (m + (i : Int))
  refine ⟨_, h1, fun j hj => ?_, hb.trans h2⟩
  rw [List.getElem?_set]
  by_cases e : i = j
  · subst e
    rw [if_pos rfl, if_pos (by have := hO.1; omega), marksI_at _ _ _ hi']
  · rw [if_neg e]
    exact hy j (by omega)
def MarkedI (lo hi : Nat) (w : World) (A : Option Addr) (n c : Nat) (m : Int) (e : Ending) (w' : World) : Prop :=
  e = .returned (.int .i64 (m + (n : Int))) ∧ Own .i64 3 lo hi w' A n c (marksI m n) ∧ Step lo hi w w'
theorem MarkI.ret {lo hi : Nat} {w wr : World} {A : Option Addr} {n c : Nat} {m : Int} (h : MarkI lo hi w A n c m n wr) : MarkedI lo hi w A n c m (.returned (.int .i64 (m + (n : Int)))) wr := by
  obtain ⟨ys, hO, hy, hb⟩ := h
  obtain rfl : ys = marksI m n := zs_ext hO.1 (marksI_len m n) hy
  exact ⟨rfl, hO, hb⟩
set_option maxHeartbeats 1000000 in
theorem markI (lo hi : Nat) (A : Option Addr) (n c : Nat) (m : Int) (zs : List Int) (w : World) (h : Own .i64 3 lo hi w A n c zs) (h0 : 0 ≤ m) (h1 : m ≤ 1099511627776) (hn : n ≤ 1099511627776) :
    Calls Try.prog 25 #[.slice A n c, .int .i64 m] w (MarkedI lo hi w A n c m) := by
  have hM : MarkI lo hi w A n c m 0 w := ⟨zs, h, fun j hj => by omega, Step.refl _ _ _⟩
  clear h
  go_enter Try.func25, Try.ntmps25
  go_wp2
  go_loopw [1, 5] (fun kv iv wr => ∃ i : Nat, i ≤ n ∧ iv = .int .i64 i ∧ kv = .int .i64 (m + (i : Int)) ∧ MarkI lo hi w A n c m i wr) (fun _ iv _ => n - (intOf iv).toNat)
  case atStart => exact ⟨0, Nat.zero_le _, rfl, by simp, hM⟩
  case round =>
    obtain ⟨i, hin, rfl, rfl, hMr⟩ := hrel
    clear hM
    by_cases hlt : i < n
    · have hM' := Lib.hid hMr
      obtain ⟨ys, hO, -, -⟩ := hMr
      obtain ⟨g, y, rfl, -, -, -, hcell, hfz⟩ := hO.slot hlt
      clear hO
      go_wp2
      go_roundw
      case rel => exact ⟨i + 1, by omega, by go_num, by go_num, hM'.out.next hlt⟩
      case measure => simp [intOf]; omega
    · have : i = n := by omega
      subst this
      have hM' := Lib.hid hMr
      clear hMr
      go_wp2
      go_ret
      exact hM'.out.ret
end Go.Proofs.Ytmeacgpebpfpbaa
namespace Go.Proofs.Ytmeacgpebpfpbaa

def putU (n : Nat) : List Int := if n < 128 then [(n : Int)] else ((128 + n % 128 : Nat) : Int) :: putU (n / 128)
termination_by n
decreasing_by omega
def Byt (zs : List Int) : Prop := ∀ z ∈ zs, 0 ≤ z ∧ z ≤ 255
theorem Byt.append {a b : List Int} (h : Byt a) (k : Byt b) : Byt (a ++ b) := fun z hz => by
  rcases List.mem_append.1 hz with h' | h'
  · exact h z h'
  · exact k z h'
theorem Byt.nil : Byt [] := fun z hz => by cases hz
theorem Byt.drop {a : List Int} (h : Byt a) (n : Nat) : Byt (a.drop n) := fun z hz => h z (List.mem_of_mem_drop hz)
theorem Byt.take {a : List Int} (h : Byt a) (n : Nat) : Byt (a.take n) := fun z hz => h z (List.mem_of_mem_take hz)
theorem Byt.at_ {a : List Int} (h : Byt a) {i : Nat} {z : Int} (hz : a[i]? = some z) : 0 ≤ z ∧ z ≤ 255 := h z (List.mem_of_getElem? hz)

def rdU : List Int → Nat → Nat → Nat → Option (Nat × Nat)
  | _, 0, _, _ => none
  | [], _ + 1, _, _ => none
  | c :: t, f + 1, i, acc =>
    if c < 128 then (if (c = 0 ∧ 0 < i) ∨ 1000000000000 < acc + c.toNat * 128 ^ i then none else some (acc + c.toNat * 128 ^ i, i + 1))
    else rdU t f (i + 1) (acc + (c.toNat % 128) * 128 ^ i)
def readU (bs : List Int) (off : Int) : Option (Nat × Nat) := if 0 ≤ off ∧ off < bs.length then rdU (bs.drop off.toNat) 6 0 0 else none
end Go.Proofs.Ytmeacgpebpfpbaa
namespace Go.Proofs.Ytmeacgpebpfpbaa
open Go.RowKit
theorem Code.rz {W : World} {A : Option Addr} {n : Nat} (h : Code W A n) : ∃ zs : List Int, Rz .u8 W A n zs ∧ Byt zs := by
  obtain ⟨zs, h1, -, h3, h4⟩ := h
  refine ⟨zs.map fun (z : Nat) => (z : Int), ⟨by simpa using h1, ?_⟩, fun z hz => ?_⟩
  · rw [List.map_map]
    exact h4
  · obtain ⟨y, hy, rfl⟩ := List.mem_map.1 hz
    have := h3 y hy
    omega
def Nums (W : World) (A : Option Addr) (n : Nat) : Prop := ∃ zs : List Int, Rz .i64 W A n zs ∧ ∀ z ∈ zs, -9223372036854775808 ≤ z ∧ z ≤ 9223372036854775807
end Go.Proofs.Ytmeacgpebpfpbaa
namespace Go.Proofs.Ytmeacgpebpfpbaa
open Go.RowKit
def Byte1 (w : World) (e : Ending) (w' : World) : Prop := ∃ x : Int, 0 ≤ x ∧ x ≤ 255 ∧ e = .returned (.int .i64 x) ∧ w = w'
theorem Byte1.ret {x : Int} {w : World} (h0 : 0 ≤ x) (h1 : x ≤ 255) : Byte1 w (.returned (.int .i64 x)) w := ⟨x, h0, h1, rfl, rfl⟩
end Go.Proofs.Ytmeacgpebpfpbaa
namespace Go.Proofs.Ytmeacgpebpfpbaa
open Go.RowKit
theorem Turn.step {g : Nat} {w w' : World} (h : Turn g w w') : Step g (g + 1) w w' := ⟨h.os, h.tape, h.output, h.size, fun k hk ho => h.block k hk (by omega)⟩
theorem Cur.low {w w' : World} {B g lo : Nat} (h : Cur w B g) (hb : Below lo w w') (hg : g < lo) : Cur w' B g := by
  obtain ⟨A, n, c, zs, i, hh, hgg, hl, hn, hz, hR, hi, hB⟩ := h
  exact ⟨A, n, c, zs, i, hh, (hb.block g hg).trans hgg, hl, hn, hz, hR.below (hb.mono (by omega)), hi, hB⟩
theorem Turn.low {g lo : Nat} {w w1 w2 : World} (h : Turn g w w1) (hb : Below lo w1 w2) (hl : w.heap.size ≤ lo) : Turn g w w2 :=
  ⟨hb.os.trans h.os, hb.tape.trans h.tape, hb.output.trans h.output, Nat.le_trans h.size hb.size, fun k hk hg => (hb.block k (by omega)).trans (h.block k hk hg)⟩
theorem Left.low {B g lo : Nat} {w w1 w2 : World} (h : Left B g w w1) (hb : Below lo w1 w2) (hl : w.heap.size ≤ lo) (hg : g < lo) : Left B g w w2 := ⟨h.1.low hb hg, h.2.low hb hl⟩
theorem Own.turn {k : IntKind} {E : TypeId} {lo hi : Nat} {w w' : World} {A : Option Addr} {n c g : Nat} {zs : List Int} (h : Own k E lo hi w A n c zs) (ht : Turn g w w') (hg : g < lo) : Own k E lo hi w' A n c zs := h.step ht.step (Or.inr hg)
theorem FO.turn {α : Type} {l : Lay α} {E : TypeId} {lo hi : Nat} {w w' : World} {A : Option Addr} {n c g : Nat} {L : List α} (h : FO l E lo hi w A n c L) (ht : Turn g w w') (hg : g < lo) : FO l E lo hi w' A n c L := h.step ht.step (Or.inr hg)
theorem Box.turn {b g : Nat} {cs : List Value} {w w' : World} (h : Box b cs w) (ht : Turn g w w') (hne : b ≠ g) : Box b cs w' :=
  ⟨Nat.lt_of_lt_of_le h.1 ht.size, fun i v hv => (ht.cell (p := ⟨b, i, none⟩) h.1 hne).trans (h.2 i v hv)⟩
theorem Zb.turn {B b g : Nat} {cs : List Value} {w w' : World} (h : Zb B b cs w) (ht : Turn g w w') (hne : b ≠ g) : Zb B b cs w' :=
  ⟨h.1, h.2.1.turn ht hne, fun j => (World.frozen?_of_block (w := w) (a := ⟨b, j, none⟩) (ht.block b h.2.1.1 hne)).trans (h.2.2 j)⟩
theorem Left.below {B g : Nat} {w w' : World} (h : Left B g w w') (hB : B ≤ g) (hs : B ≤ w.heap.size) : Below B w w' := h.2.below hB hs
theorem GivesBool.of {b c : Bool} {w w' : World} (h : b = c) (hb : Below w.heap.size w w') : GivesBool c w (.returned (.bool b)) w' := ⟨by rw [h], hb⟩
end Go.Proofs.Ytmeacgpebpfpbaa
