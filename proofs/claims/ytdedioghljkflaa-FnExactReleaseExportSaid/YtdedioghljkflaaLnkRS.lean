/- Chapter 10: the reference's ReleaseExport. -/
import Derived.Test.YtdedioghljkflaaLnkR
import Derived.IntWalk
import Derived.Deep.CutRange
import Derived.Test.YtdedioghljkflaaLnkC
import Derived.Deep.RegionHeld3
import Derived.Deep.RegionLaw
import Derived.Deep.Cut
import Derived.LoopTactic
import Derived.Lib.Hide
import Derived.Deep.QuietTactic
import Derived.BigQuiet
import Derived.Deep.RegionWith
import Derived.Handy
namespace Go.Proofs.Ytdedioghljkflaa
open Go.RowKit
set_option linter.unusedVariables false
set_option linter.unusedSimpArgs false
theorem ic_take {k : Nat} : ∀ {L : List Dat} {e : Nat}, (∀ x ∈ L, Ic k x) → (L.take e).flatMap ic = (L.flatMap ic).take (e * k)
  | [], e, _ => by simp
  | d :: L, 0, _ => by simp
  | d :: L, e + 1, h => by
    have hl := (h d List.mem_cons_self).len
    have e1 : (ic d).take ((e + 1) * k) = ic d := List.take_of_length_le (by rw [hl, Nat.add_mul]; omega)
    have e2 : (e + 1) * k - k = e * k := by rw [Nat.add_mul]; omega
    rw [List.take_succ_cons, List.flatMap_cons, List.flatMap_cons, ic_take (fun x hx => h x (List.mem_cons_of_mem _ hx)), List.take_append, e1, hl, e2]
theorem ic_drop {k : Nat} : ∀ {L : List Dat} {e : Nat}, (∀ x ∈ L, Ic k x) → (L.drop e).flatMap ic = (L.flatMap ic).drop (e * k)
  | [], e, _ => by simp
  | d :: L, 0, _ => by simp
  | d :: L, e + 1, h => by
    have hl := (h d List.mem_cons_self).len
    have e1 : (ic d).drop ((e + 1) * k) = [] := List.drop_eq_nil_of_le (by rw [hl, Nat.add_mul]; omega)
    have e2 : (e + 1) * k - k = e * k := by rw [Nat.add_mul]; omega
    rw [List.drop_succ_cons, List.flatMap_cons, ic_drop (fun x hx => h x (List.mem_cons_of_mem _ hx)), List.drop_append, e1, hl, e2, List.nil_append]
/-- A part of a slice, as a source. -/
theorem Src.part {w : World} {k b off n c : Nat} {L : List Dat} (h : Lies w (.l L) [.slice (some ⟨b, off, none⟩) n c]) (hI : ∀ x ∈ L, Ic k x) (s e : Nat) (hs : s ≤ e) (he : e ≤ n) : Src k w (some ⟨b, off + s * k, none⟩) (e - s) ((L.take e).drop s) (fun _ => False) := by
  have hn := h.count
  rw [Lies] at h
  obtain ⟨A', n', c', e1, -, h⟩ := h
  simp only [List.cons.injEq, Value.slice.injEq, and_true] at e1
  obtain ⟨rfl, rfl, rfl⟩ := e1
  have hI2 : ∀ x ∈ (L.take e).drop s, Ic k x := fun x hx => hI x (List.mem_of_mem_take (List.mem_of_mem_drop hx))
  rcases h with rfl | ⟨b', off', xs, e2, ⟨hlt, hnc⟩, hx, hc⟩
  · exact ⟨[], Or.inl rfl, by rw [List.take_nil, List.drop_nil, OwnsAll], by simp at hn ⊢; omega, fun x hx => by simp at hx, fun b h => h.elim⟩
  · obtain ⟨rfl, rfl⟩ : b = b' ∧ off = off' := by injection e2 with e2; injection e2 with a b; exact ⟨a, b⟩
    rw [liesAll_ic hI] at hx
    subst hx
    refine ⟨_, Or.inr ⟨b, off + s * k, rfl, hlt, fun j v hj => ?_⟩, LiesAll.owns (flatAll_of (fun x hx => (hI2 x hx).flat)) ((liesAll_ic hI2).2 rfl), by rw [List.length_drop, List.length_take]; omega, fun x hx => (hI2 x hx).width, fun b h => h.elim⟩
    rw [ic_drop (fun x hx => hI x (List.mem_of_mem_take hx)), ic_take hI, List.getElem?_drop, List.getElem?_take] at hj
    split at hj
    · rw [Nat.add_assoc]; exact hc _ _ hj
    · cases hj
theorem Src.less {w : World} {k n : Nat} {A A' : Option Addr} {L : List Dat} {B : Nat → Prop} (h : Src k w A 0 L B) : Src k w A' 0 L B := by
  obtain ⟨xs, h1, h2, h3, h4, h5⟩ := h
  have : L = [] := List.eq_nil_of_length_eq_zero h3
  subst this
  rw [OwnsAll] at h2
  subst h2
  exact ⟨[], Or.inl rfl, by rw [OwnsAll], rfl, h4, h5⟩
theorem erase_td {L : List Dat} {i n : Nat} (h : L.length = n) : (L.take i).drop 0 ++ (L.take n).drop (i + 1) = L.eraseIdx i := by
  have e1 : L.take n = L := List.take_of_length_le (by omega)
  rw [List.drop_zero, e1, List.eraseIdx_eq_take_drop_succ]
theorem Touch.fresh9d {wx w' : World} {E : TypeId} {A0 : Option Addr} {g : Nat} (hT : Touch (fun b => ∃ a, A0 = some a ∧ b = a.block) ((wx.alloc (.cells #[] E)).drew) w') (e : A0 = some ⟨g, 0, none⟩) (hg : wx.heap.size ≤ g) : Below wx.heap.size wx w' :=
  (((Below.refl _ _).alloc (Nat.le_refl _) _).drew).trans (hT.below (fun b ⟨a, e', hb⟩ => by rw [e] at e'; obtain rfl := Option.some.inj e'; rw [hb]; exact hg) (by show wx.heap.size ≤ (wx.alloc _).heap.size; simp))
set_option maxRecDepth 100000 in
set_option maxHeartbeats 16000000 in
theorem specRel (f0 : Int) (f1 : Bool) (L2 : List Dat) (A2 : Option Addr) (n2 c2 : Nat) (f3 : Int) (L4 : List Dat) (A4 : Option Addr) (n4 c4 : Nat) (f5 : Int) (L6 : List Dat) (A6 : Option Addr) (n6 c6 : Nat) (x y : Int) (w : World) (hl2 : Lies w (.l L2) [.slice A2 n2 c2]) (ht2 : ∀ x ∈ L2, Has tyExport x) (hl4 : Lies w (.l L4) [.slice A4 n4 c4]) (ht4 : ∀ x ∈ L4, Has tyQuestion x) (hl6 : Lies w (.l L6) [.slice A6 n6 c6]) (ht6 : ∀ x ∈ L6, Has tyQuestion x) (hn2 : n2 ≤ 1099511627776) (hn4 : n4 ≤ 1099511627776) (hn6 : n6 ≤ 1099511627776) :
    Calls Try.prog 33 #[.agg #[.int .i64 f0, .bool f1, .slice A2 n2 c2, .int .i64 f3, .slice A4 n4 c4, .int .i64 f5, .slice A6 n6 c6], .int .i64 x, .int .i64 y] w (GivesL f0 f1 (relX x y L2) (relX x y L2).length f3 L4 n4 f5 L6 n6 w) := by
  have HC2 := Lib.hid hl2.count
  have HL2 := Lib.hid hl2
  have HT2 := Lib.hid ht2
  have HL4 := Lib.hid hl4
  have HT4 := Lib.hid ht4
  have HL6 := Lib.hid hl6
  have HT6 := Lib.hid ht6
  clear hl2 hl4 hl6 ht2 ht4 ht6
  obtain ⟨i0, hi, hz0, hz1, hz2⟩ := info_parts infoExport
  obtain ⟨i1, hj, hy0, hy1, hy2⟩ := info_parts infoQuestion
  have HB : Hid (Below w.heap.size w w) := Lib.hid (Below.refl _ _)
  have Zl : Hid (Zx (w.heap.size) [.int .i64 f0, .bool f1, .slice A2 n2 c2, .int .i64 f3, .slice A4 n4 c4, .int .i64 f5, .slice A6 n6 c6] (w.alloc (.cells #[.int .i64 f0, .bool f1, .slice A2 n2 c2, .int .i64 f3, .slice A4 n4 c4, .int .i64 f5, .slice A6 n6 c6] 27))) := Lib.hid (Zx.new _ _ _)
  replace HB : Hid (Below w.heap.size w (w.alloc (.cells #[.int .i64 f0, .bool f1, .slice A2 n2 c2, .int .i64 f3, .slice A4 n4 c4, .int .i64 f5, .slice A6 n6 c6] 27))) := Lib.hid (HB.out.alloc HB.out.size _)
  replace Zl : Hid (Zx (w.heap.size) [.int .i64 f0, .bool f1, .slice A2 n2 c2, .int .i64 f3, .slice A4 n4 c4, .int .i64 f5, .slice A6 n6 c6] ((w.alloc (.cells #[.int .i64 f0, .bool f1, .slice A2 n2 c2, .int .i64 f3, .slice A4 n4 c4, .int .i64 f5, .slice A6 n6 c6] 27)).alloc (.cells #[.int .i64 0, .bool false, .slice none 0 0, .int .i64 0, .slice none 0 0, .int .i64 0, .slice none 0 0] 27))) := Lib.hid (Zl.out.below ((Below.refl _ _).alloc (Nat.le_refl _) _))
  have Zr : Hid (Zx (w.heap.size + 1) [.int .i64 0, .bool false, .slice none 0 0, .int .i64 0, .slice none 0 0, .int .i64 0, .slice none 0 0] ((w.alloc (.cells #[.int .i64 f0, .bool f1, .slice A2 n2 c2, .int .i64 f3, .slice A4 n4 c4, .int .i64 f5, .slice A6 n6 c6] 27)).alloc (.cells #[.int .i64 0, .bool false, .slice none 0 0, .int .i64 0, .slice none 0 0, .int .i64 0, .slice none 0 0] 27))) := Lib.hid (by have h1 := Zx.new (w.alloc (.cells #[.int .i64 f0, .bool f1, .slice A2 n2 c2, .int .i64 f3, .slice A4 n4 c4, .int .i64 f5, .slice A6 n6 c6] 27)) #[.int .i64 0, .bool false, .slice none 0 0, .int .i64 0, .slice none 0 0, .int .i64 0, .slice none 0 0] 27; (try simp only [World.size_alloc, World.size_setCell] at h1); exact h1)
  replace HB : Hid (Below w.heap.size w ((w.alloc (.cells #[.int .i64 f0, .bool f1, .slice A2 n2 c2, .int .i64 f3, .slice A4 n4 c4, .int .i64 f5, .slice A6 n6 c6] 27)).alloc (.cells #[.int .i64 0, .bool false, .slice none 0 0, .int .i64 0, .slice none 0 0, .int .i64 0, .slice none 0 0] 27))) := Lib.hid (HB.out.alloc HB.out.size _)
  go_enter Try.func33, Try.ntmps33
  go_wp2_with fail
  refine (specCopy f0 f1 L2 A2 n2 c2 f3 L4 A4 n4 c4 f5 L6 A6 n6 c6 _ (HL2.out.below HB.out) HT2.out (HL4.out.below HB.out) HT4.out (HL6.out.below HB.out) HT6.out hn2 hn4 hn6).mono ?_
  rintro e w1 ⟨B2, k2, B4, k4, B6, k6, rfl, hK, hb⟩
  replace Zl : Hid (Zx (w.heap.size) [.int .i64 f0, .bool f1, .slice A2 n2 c2, .int .i64 f3, .slice A4 n4 c4, .int .i64 f5, .slice A6 n6 c6] w1) := Lib.hid (Zl.out.below hb)
  replace Zr : Hid (Zx (w.heap.size + 1) [.int .i64 0, .bool false, .slice none 0 0, .int .i64 0, .slice none 0 0, .int .i64 0, .slice none 0 0] w1) := Lib.hid (Zr.out.below hb)
  replace HB : Hid (Below w.heap.size w w1) := Lib.hid (HB.out.trans (hb.mono HB.out.size))
  have hsw1 : w.heap.size + 1 + 1 ≤ w1.heap.size := (by have h1 := hb.size; (try simp only [World.size_alloc, World.size_setCell] at h1); exact h1)
  have G2 : Hid (Grow 54 3 (w.heap.size + 1 + 1) w1 B2 n2 k2 L2 (fun _ => False)) := Lib.hid (by have h1 := hK.g2; (try simp only [World.size_alloc] at h1); exact h1)
  have G4 : Hid (Grow 60 2 (w.heap.size + 1 + 1) w1 B4 n4 k4 L4 (fun _ => False)) := Lib.hid (by have h1 := hK.g4; (try simp only [World.size_alloc] at h1); exact h1)
  have G6 : Hid (Grow 60 2 (w.heap.size + 1 + 1) w1 B6 n6 k6 L6 (fun _ => False)) := Lib.hid (by have h1 := hK.g6; (try simp only [World.size_alloc] at h1); exact h1)
  have P24 := Lib.hid hK.p24
  have P26 := Lib.hid hK.p26
  have P46 := Lib.hid hK.p46
  clear hK hb
  have No2 : Hid (∀ a, B2 = some a → a.block ≠ w1.heap.size) := Lib.hid (fun a e => by have h1 := (G2.out.blkF a e).2; (try simp only [World.size_alloc, World.size_setCell] at h1); omega)
  have No4 : Hid (∀ a, B4 = some a → a.block ≠ w1.heap.size) := Lib.hid (fun a e => by have h1 := (G4.out.blkF a e).2; (try simp only [World.size_alloc, World.size_setCell] at h1); omega)
  have No6 : Hid (∀ a, B6 = some a → a.block ≠ w1.heap.size) := Lib.hid (fun a e => by have h1 := (G6.out.blkF a e).2; (try simp only [World.size_alloc, World.size_setCell] at h1); omega)
  obtain ⟨yl0, yl1, yl2, yl3, yl4, yl5, yl6, fyl⟩ := (Zl.out.below ((Below.refl _ _).alloc (Nat.le_refl _) (.cells #[.int .i64 f0, .bool f1, .slice B2 n2 k2, .int .i64 f3, .slice B4 n4 k4, .int .i64 f5, .slice B6 n6 k6] 27))).c7
  obtain ⟨yr0, yr1, yr2, yr3, yr4, yr5, yr6, fyr⟩ := (Zr.out.below ((Below.refl _ _).alloc (Nat.le_refl _) (.cells #[.int .i64 f0, .bool f1, .slice B2 n2 k2, .int .i64 f3, .slice B4 n4 k4, .int .i64 f5, .slice B6 n6 k6] 27))).c7
  replace Zl : Hid (Zx (w.heap.size) [.int .i64 f0, .bool f1, .slice A2 n2 c2, .int .i64 f3, .slice A4 n4 c4, .int .i64 f5, .slice A6 n6 c6] (w1.alloc (.cells #[.int .i64 f0, .bool f1, .slice B2 n2 k2, .int .i64 f3, .slice B4 n4 k4, .int .i64 f5, .slice B6 n6 k6] 27))) := Lib.hid (Zl.out.below ((Below.refl _ _).alloc (Nat.le_refl _) _))
  replace Zr : Hid (Zx (w.heap.size + 1) [.int .i64 0, .bool false, .slice none 0 0, .int .i64 0, .slice none 0 0, .int .i64 0, .slice none 0 0] (w1.alloc (.cells #[.int .i64 f0, .bool f1, .slice B2 n2 k2, .int .i64 f3, .slice B4 n4 k4, .int .i64 f5, .slice B6 n6 k6] 27))) := Lib.hid (Zr.out.below ((Below.refl _ _).alloc (Nat.le_refl _) _))
  replace G2 : Hid (Grow 54 3 (w.heap.size + 1 + 1) (w1.alloc (.cells #[.int .i64 f0, .bool f1, .slice B2 n2 k2, .int .i64 f3, .slice B4 n4 k4, .int .i64 f5, .slice B6 n6 k6] 27)) B2 n2 k2 L2 (fun _ => False)) := Lib.hid (G2.out.below ((Below.refl _ _).alloc (Nat.le_refl _) _))
  replace G4 : Hid (Grow 60 2 (w.heap.size + 1 + 1) (w1.alloc (.cells #[.int .i64 f0, .bool f1, .slice B2 n2 k2, .int .i64 f3, .slice B4 n4 k4, .int .i64 f5, .slice B6 n6 k6] 27)) B4 n4 k4 L4 (fun _ => False)) := Lib.hid (G4.out.below ((Below.refl _ _).alloc (Nat.le_refl _) _))
  replace G6 : Hid (Grow 60 2 (w.heap.size + 1 + 1) (w1.alloc (.cells #[.int .i64 f0, .bool f1, .slice B2 n2 k2, .int .i64 f3, .slice B4 n4 k4, .int .i64 f5, .slice B6 n6 k6] 27)) B6 n6 k6 L6 (fun _ => False)) := Lib.hid (G6.out.below ((Below.refl _ _).alloc (Nat.le_refl _) _))
  have Zo : Hid (Zx (w1.heap.size) [.int .i64 f0, .bool f1, .slice B2 n2 k2, .int .i64 f3, .slice B4 n4 k4, .int .i64 f5, .slice B6 n6 k6] (w1.alloc (.cells #[.int .i64 f0, .bool f1, .slice B2 n2 k2, .int .i64 f3, .slice B4 n4 k4, .int .i64 f5, .slice B6 n6 k6] 27))) := Lib.hid (Zx.new _ _ _)
  replace HB : Hid (Below w.heap.size w (w1.alloc (.cells #[.int .i64 f0, .bool f1, .slice B2 n2 k2, .int .i64 f3, .slice B4 n4 k4, .int .i64 f5, .slice B6 n6 k6] 27))) := Lib.hid (HB.out.alloc HB.out.size _)
  go_upto_region 2 with (fail)
  clear yl0 yl1 yl2 yl3 yl4 yl5 yl6 yr0 yr1 yr2 yr3 yr4 yr5 yr6 fyl fyr
  have hsw2 : w1.heap.size + 1 ≤ (w1.alloc (.cells #[.int .i64 f0, .bool f1, .slice B2 n2 k2, .int .i64 f3, .slice B4 n4 k4, .int .i64 f5, .slice B6 n6 k6] 27)).heap.size := by (first | (simp; done) | (simp only [World.size_alloc, World.size_setCell]; omega))
  generalize (w1.alloc (.cells #[.int .i64 f0, .bool f1, .slice B2 n2 k2, .int .i64 f3, .slice B4 n4 k4, .int .i64 f5, .slice B6 n6 k6] 27)) = w2 at *
  obtain ⟨zl0, zl1, zl2, zl3, zl4, zl5, zl6, fl⟩ := Zl.out.c7
  obtain ⟨zr0, zr1, zr2, zr3, zr4, zr5, zr6, fr⟩ := Zr.out.c7
  obtain ⟨zo0, zo1, zo2, zo3, zo4, zo5, zo6, fo⟩ := Zo.out.c7
  by_cases hy1 : y < 1
  · skip
    have hy0 : (decide (y < 1)) = true := (by simp; omega)
    have E1 : Hid (L2 = relX x y L2) := Lib.hid (relX_few hy1).symm
    have E2 : Hid (n2 = (relX x y L2).length) := Lib.hid (by rw [relX_few hy1, HC2.out])
    go_wp2_with fail
    refine bodyPost_ret (v := .agg #[.int .i64 f0, .bool f1, .slice B2 n2 k2, .int .i64 f3, .slice B4 n4 k4, .int .i64 f5, .slice B6 n6 k6]) ?hres rfl ?hpost
    case hres =>
      refine results_box rfl _ _ (w.heap.size + 1) [.int .i64 f0, .bool f1, .slice B2 n2 k2, .int .i64 f3, .slice B4 n4 k4, .int .i64 f5, .slice B6 n6 k6] _ rfl ?_ Try.underlying27 rfl (by kernel_rfl)
      refine Zx.box ?_
      repeat (first | with_reducible exact Zr.out | with_reducible refine Zx.drewB ?_ | with_reducible apply Zx.put7)
    case hpost =>
      suffices h9 : ∀ w' : World, Touch (fun b => b = w.heap.size + 1) w2 w' → GivesL f0 f1 (relX x y L2) (relX x y L2).length f3 L4 n4 f5 L6 n6 w (.returned (.agg #[.int .i64 f0, .bool f1, .slice B2 n2 k2, .int .i64 f3, .slice B4 n4 k4, .int .i64 f5, .slice B6 n6 k6])) w' from h9 _ (by repeat (first | with_reducible exact Touch.refl _ _ | with_reducible refine Touch.drew ?_ | with_reducible refine Touch.put7 ?_ (Eq.refl _)))
      intro w' hT9
      obtain ⟨hL9, hB9⟩ := Link3.fin (W := w) (g := w.heap.size + 1) G2.out G4.out G6.out P24.out P26.out P46.out hT9 HB.out (by omega) (by omega)
      exact GivesL.of ⟨_, _, _, _, _, _, rfl, hL9, hB9⟩ E1.out E2.out
  · skip
    have hy0 : (decide (y < 1)) = false := (by simp; omega)
    go_wp2_with fail
    go_loopw [8] (fun iv wr => ∃ i : Nat, i ≤ n2 ∧ iv = .int .i64 i ∧ (∀ (j : Nat) (e : Dat), j < i → L2[j]? = some e → isF 0 x e = false) ∧ Below w2.heap.size w2 wr) (fun iv _ => n2 - (intOf iv).toNat)
    case atStart => exact ⟨0, Nat.zero_le _, rfl, fun j e hj => by omega, Below.refl _ _⟩
    case round =>
      obtain ⟨i, hin, rfl, hno, hb⟩ := hrel
      have HNO := Lib.hid hno
      have HBW := Lib.hid hb
      clear hno
      clear zl0 zl1 zl2 zl3 zl4 zl5 zl6 fl
      clear zr0 zr1 zr2 zr3 zr4 zr5 zr6 fr
      clear zo0 zo1 zo2 zo3 zo4 zo5 zo6 fo
      replace Zl : Hid (Zx (w.heap.size) [.int .i64 f0, .bool f1, .slice A2 n2 c2, .int .i64 f3, .slice A4 n4 c4, .int .i64 f5, .slice A6 n6 c6] wr) := Lib.hid (Zl.out.below hb)
      replace Zr : Hid (Zx (w.heap.size + 1) [.int .i64 0, .bool false, .slice none 0 0, .int .i64 0, .slice none 0 0, .int .i64 0, .slice none 0 0] wr) := Lib.hid (Zr.out.below hb)
      replace Zo : Hid (Zx (w1.heap.size) [.int .i64 f0, .bool f1, .slice B2 n2 k2, .int .i64 f3, .slice B4 n4 k4, .int .i64 f5, .slice B6 n6 k6] wr) := Lib.hid (Zo.out.below hb)
      replace G2 : Hid (Grow 54 3 (w.heap.size + 1 + 1) wr B2 n2 k2 L2 (fun _ => False)) := Lib.hid (G2.out.below hb)
      replace G4 : Hid (Grow 60 2 (w.heap.size + 1 + 1) wr B4 n4 k4 L4 (fun _ => False)) := Lib.hid (G4.out.below hb)
      replace G6 : Hid (Grow 60 2 (w.heap.size + 1 + 1) wr B6 n6 k6 L6 (fun _ => False)) := Lib.hid (G6.out.below hb)
      replace HB : Hid (Below w.heap.size w wr) := Lib.hid (HB.out.trans (hb.mono HB.out.size))
      have hswr : w2.heap.size ≤ wr.heap.size := (by have h1 := hb.size; (try simp only [World.size_alloc, World.size_setCell] at h1); exact h1)
      clear hb
      by_cases hlt : i < n2
      · skip
        have hcap := HL2.out.cap
        obtain ⟨b, off, d, xs, rfl, hbw, hzi, hlie, hlen, hcell⟩ := HL2.out.elem (fun x hx => (HT2.out x hx).width) hlt
        obtain ⟨p0, p1, p2, hd, rfl⟩ := invExport (HT2.out d (List.mem_of_getElem? hzi)) hlie
        have s0 : wr.cell? ⟨b, off + i * 3, none⟩ = some (.int .i64 p0) := (HB.out.cell (p := ⟨b, off + i * 3, none⟩) hbw).trans (hcell 0 _ rfl)
        have s1 : wr.cell? ⟨b, off + i * 3 + 1, none⟩ = some (.int .i64 p1) := (HB.out.cell (p := ⟨b, off + i * 3 + 1, none⟩) hbw).trans (hcell 1 _ rfl)
        have s2 : wr.cell? ⟨b, off + i * 3 + 2, none⟩ = some (.int .i64 p2) := (HB.out.cell (p := ⟨b, off + i * 3 + 2, none⟩) hbw).trans (hcell 2 _ rfl)
        have HD : Hid (L2[i]? = some (Dat.r [.i p0, .i p1, .i p2])) := Lib.hid (by rw [← hd]; exact hzi)
        clear hzi hlie hcell hd hlen
        by_cases e : p0 = x
        · skip
          have HX := Lib.hid e
          have hb0 : (p0 == x) = true := by simpa using e
          have hb1 : (p0 != x) = false := by simpa using e
          clear e
          by_cases hcl : wrap64 (p2 - y) < 1
          · skip
            have hcd : (decide (wrap64 (p2 - y) < 1)) = true := (by simp; omega)
            have HP : Hid (relX x y L2 = L2.eraseIdx i) := Lib.hid (relX_out (by omega) HNO.out HD.out (isF_t (k := 0) (d := .r [.i p0, .i p1, .i p2]) HX.out) hcl)
            clear hcl
            obtain ⟨zl0, zl1, zl2, zl3, zl4, zl5, zl6, fl⟩ := Zl.out.c7
            obtain ⟨zo0, zo1, zo2, zo3, zo4, zo5, zo6, fo⟩ := Zo.out.c7
            go_upto_region 10 with (fail)
            clear hcd s0 s1 s2
            clear zo0 zo1 zo2 zo3 zo4 zo5 zo6 fo
            go_cut [] from 15 to 59 (fun wx => ∃ (C9 : Option Addr) (m9 k9 : Nat), Zx (w1.heap.size) [.int .i64 f0, .bool f1, .slice C9 m9 k9, .int .i64 f3, .slice B4 n4 k4, .int .i64 f5, .slice B6 n6 k6] wx ∧ Zx (w.heap.size + 1) [.int .i64 0, .bool false, .slice none 0 0, .int .i64 0, .slice none 0 0, .int .i64 0, .slice none 0 0] wx ∧ Grow 54 3 (w.heap.size + 1 + 1) wx C9 m9 k9 (relX x y L2) (fun _ => False) ∧ Grow 60 2 (w.heap.size + 1 + 1) wx B4 n4 k4 L4 (fun _ => False) ∧ Grow 60 2 (w.heap.size + 1 + 1) wx B6 n6 k6 L6 (fun _ => False) ∧ Apart C9 B4 ∧ Apart C9 B6 ∧ m9 = (relX x y L2).length ∧ Below w.heap.size w wx)
            case rest =>
              rename World => wx
              obtain ⟨C9, m9, k9, hZo, hZr, hG2, hG4, hG6, hP24, hP26, hm9, hBx⟩ := hcut
              clear zl0 zl1 zl2 zl3 zl4 zl5 zl6 fl
              replace Zo : Hid (Zx (w1.heap.size) [.int .i64 f0, .bool f1, .slice C9 m9 k9, .int .i64 f3, .slice B4 n4 k4, .int .i64 f5, .slice B6 n6 k6] wx) := Lib.hid hZo
              replace Zr : Hid (Zx (w.heap.size + 1) [.int .i64 0, .bool false, .slice none 0 0, .int .i64 0, .slice none 0 0, .int .i64 0, .slice none 0 0] wx) := Lib.hid hZr
              replace G2 : Hid (Grow 54 3 (w.heap.size + 1 + 1) wx C9 m9 k9 (relX x y L2) (fun _ => False)) := Lib.hid hG2
              replace G4 : Hid (Grow 60 2 (w.heap.size + 1 + 1) wx B4 n4 k4 L4 (fun _ => False)) := Lib.hid hG4
              replace G6 : Hid (Grow 60 2 (w.heap.size + 1 + 1) wx B6 n6 k6 L6 (fun _ => False)) := Lib.hid hG6
              replace P24 := Lib.hid hP24
              replace P26 := Lib.hid hP26
              have E2 := Lib.hid hm9
              have hszx := hBx.size
              have HB9 : Hid (Below w.heap.size w wx) := Lib.hid hBx
              clear HB
              have HB := HB9
              clear HB9 Zl hZo hZr hG2 hG4 hG6 hP24 hP26 hm9 hBx
              obtain ⟨zo0, zo1, zo2, zo3, zo4, zo5, zo6, fo⟩ := Zo.out.c7
              obtain ⟨zr0, zr1, zr2, zr3, zr4, zr5, zr6, fr⟩ := Zr.out.c7
              go_wp2_with fail
              refine bodyPost_ret (v := .agg #[.int .i64 f0, .bool f1, .slice C9 m9 k9, .int .i64 f3, .slice B4 n4 k4, .int .i64 f5, .slice B6 n6 k6]) ?hres rfl ?hpost
              case hres =>
                refine results_box rfl _ _ (w.heap.size + 1) [.int .i64 f0, .bool f1, .slice C9 m9 k9, .int .i64 f3, .slice B4 n4 k4, .int .i64 f5, .slice B6 n6 k6] _ rfl ?_ Try.underlying27 rfl (by kernel_rfl)
                refine Zx.box ?_
                repeat (first | with_reducible exact Zr.out | with_reducible refine Zx.drewB ?_ | with_reducible apply Zx.put7)
              case hpost =>
                suffices h9 : ∀ w' : World, Touch (fun b => b = w.heap.size + 1) wx w' → GivesL f0 f1 (relX x y L2) (relX x y L2).length f3 L4 n4 f5 L6 n6 w (.returned (.agg #[.int .i64 f0, .bool f1, .slice C9 m9 k9, .int .i64 f3, .slice B4 n4 k4, .int .i64 f5, .slice B6 n6 k6])) w' from h9 _ (by repeat (first | with_reducible exact Touch.refl _ _ | with_reducible refine Touch.drew ?_ | with_reducible refine Touch.put7 ?_ (Eq.refl _)))
                intro w' hT9
                obtain ⟨hL9, hB9⟩ := Link3.fin (W := w) (g := w.heap.size + 1) G2.out G4.out G6.out P24.out P26.out P46.out hT9 HB.out (by omega) (by omega)
                exact GivesL.of ⟨_, _, _, _, _, _, rfl, hL9, hB9⟩ rfl E2.out
            case first =>
              have hI : Hid (∀ y ∈ L2, Ic 3 y) := Lib.hid (fun y hy => (x3_of (HT2.out y hy)).ic)
              by_cases hcz : c2 = i + 1
              · skip
                obtain rfl : c2 = i + 1 := hcz
                have h1 : (0 : Int) ≤ (i : Int) := by omega
                have h2 : (i : Int) ≤ (i : Int) + 1 := by omega
                have h3 : (0 : Int) ≤ (i : Int) + 1 := by omega
                have h4 : (i : Int) + 1 ≤ (n2 : Int) := by omega
                have h5 : (n2 : Int) ≤ (i : Int) + 1 := by omega
                have h6 : IntKind.i64.wrap ((i : Int) + 1) = (i : Int) + 1 := IntWalk.i64_in _ (by omega)
                have h7 : ((i : Int) + 1).toNat = i + 1 := by omega
                have h9 : n2 - (i + 1) = 0 := by omega
                obtain ⟨zo0, zo1, zo2, zo3, zo4, zo5, zo6, fo⟩ := Zo.out.c7
                obtain ⟨yl0, yl1, yl2, yl3, yl4, yl5, yl6, fyl⟩ := (Zl.out.below ((Below.refl _ _).alloc (Nat.le_refl _) (.cells #[] 54))).c7
                obtain ⟨yo0, yo1, yo2, yo3, yo4, yo5, yo6, fyo⟩ := (Zo.out.below ((Below.refl _ _).alloc (Nat.le_refl _) (.cells #[] 54))).c7
                go_region_law (first
                  | (refine step_append_dat _ rfl _ _ 24 rfl 3 (by omega) 54 i0 _ 24 Try.underlying24 hi hz0 hz1 rfl hz2 wr.heap.size (some ⟨wr.heap.size, 0, none⟩) 0 0 [] (fun _ => False) rfl ((Grow.lit9 54 3 wr).below (Below.refl _ _).drew) (some ⟨b, off, none⟩) i (i + 1) ((L2.take i).drop 0) (fun _ => False) rfl ((by have hx := Src.part (HL2.out.below ((HB.out.alloc HB.out.size (.cells #[] 54)).drew)) hI.out 0 i (by omega) (by omega); rw [Nat.sub_zero, Nat.zero_mul, Nat.add_zero] at hx; exact hx)) (fun b h => h.elim) (fun a e h => h) (by unfold maxLen; omega) (by omega) (by simp) ?_; intro C8 k8 w8 hG hT hA; have HB8a : Below wr.heap.size wr w8 := Touch.fresh9d hT rfl (Nat.le_refl _); have HB8 := Lib.hid (HB.out.trans (HB8a.mono HB.out.size)); have HB8w := Lib.hid HB8a; have HG8 := Lib.hid hG.copied; clear hG hT hA HB8a; obtain ⟨v0, v1, v2, v3, v4, v5, v6, fv⟩ := (Zl.out.below HB8w.out).c7)
                  | (refine step_append_dat _ rfl _ _ 24 rfl 3 (by omega) 54 i0 _ 24 Try.underlying24 hi hz0 hz1 rfl hz2 wr.heap.size C8 i k8 ((L2.take i).drop 0) (fun _ => False) rfl HG8.out (some ⟨b, off, none⟩) 0 _ ((L2.take n2).drop (i + 1)) (fun _ => False) rfl (by have hx := Src.part (HL2.out.below HB8.out) hI.out (i + 1) n2 (by omega) (Nat.le_refl _); rw [h9] at hx; exact hx.less (n := 0)) (fun b h => h.elim) (fun a e h => h) (by unfold maxLen; omega) (by omega) (by have h9 := HB8w.out.size; omega) ?_; intro C9 k9 w9 hG hT hA; have HB9a : Below wr.heap.size wr w9 := HB8w.out.trans (hT.below (fun z ⟨a, e, hx⟩ => by rw [hx]; exact (HG8.out.blkF a e).1) HB8w.out.size); have HB9 := Lib.hid HB9a; have HG9 := Lib.hid (hG.noF (fun z h => h.elim (fun h => h) (fun h => h))); clear hG hT hA HB9a; obtain ⟨q0, q1, q2, q3, q4, q5, q6, fq⟩ := (Zo.out.below HB9.out).c7))
                all_goals (
                  clear zl0 zl1 zl2 zl3 zl4 zl5 zl6 fl
                  clear zo0 zo1 zo2 zo3 zo4 zo5 zo6 fo
                  clear yl0 yl1 yl2 yl3 yl4 yl5 yl6 fyl yo0 yo1 yo2 yo3 yo4 yo5 yo6 fyo
                  try clear v0 v1 v2 v3 v4 v5 v6 fv
                  try clear q0 q1 q2 q3 q4 q5 q6 fq
                  clear h1 h2 h3 h4 h5 h6 h7 h9
                  have Q24 := far_apart G4.out HG9.out (Nat.le_refl _)
                  have Q26 := far_apart G6.out HG9.out (Nat.le_refl _)
                  have hwz : wr.heap.size ≤ wr.heap.size := Nat.le_refl _
                  replace Zl : Hid (Zx (w.heap.size) [.int .i64 f0, .bool f1, .slice (some ⟨b, off, none⟩) n2 (i + 1), .int .i64 f3, .slice A4 n4 c4, .int .i64 f5, .slice A6 n6 c6] w9) := Lib.hid (Zl.out.below HB9.out)
                  replace Zr : Hid (Zx (w.heap.size + 1) [.int .i64 0, .bool false, .slice none 0 0, .int .i64 0, .slice none 0 0, .int .i64 0, .slice none 0 0] w9) := Lib.hid (Zr.out.below HB9.out)
                  replace Zo : Hid (Zx (w1.heap.size) [.int .i64 f0, .bool f1, .slice B2 n2 k2, .int .i64 f3, .slice B4 n4 k4, .int .i64 f5, .slice B6 n6 k6] w9) := Lib.hid (Zo.out.below HB9.out)
                  replace G2 : Hid (Grow 54 3 (w.heap.size + 1 + 1) w9 B2 n2 k2 L2 (fun _ => False)) := Lib.hid (G2.out.below HB9.out)
                  replace G4 : Hid (Grow 60 2 (w.heap.size + 1 + 1) w9 B4 n4 k4 L4 (fun _ => False)) := Lib.hid (G4.out.below HB9.out)
                  replace G6 : Hid (Grow 60 2 (w.heap.size + 1 + 1) w9 B6 n6 k6 L6 (fun _ => False)) := Lib.hid (G6.out.below HB9.out)
                  replace HB : Hid (Below w.heap.size w w9) := Lib.hid (HB.out.trans (HB9.out.mono HB.out.size))
                  have hsw9 : wr.heap.size ≤ w9.heap.size := (by have h1 := HB9.out.size; (try simp only [World.size_alloc, World.size_setCell] at h1); exact h1)
                  have hlo9 : w.heap.size + 1 + 1 ≤ wr.heap.size := by omega
                  replace G2 : Hid (Grow 54 3 (w.heap.size + 1 + 1) w9 C9 (i + 0) k9 ((L2.take i).drop 0 ++ (L2.take n2).drop (i + 1)) (fun _ => False)) := Lib.hid (HG9.out.moreF (fun a e => by have h1 := (HG9.out.blkF a e).1; omega))
                  replace P24 := Lib.hid Q24.symm
                  replace P26 := Lib.hid Q26.symm
                  have HM9 := Lib.hid HG9.out.owns.lies.count
                  replace No2 : Hid (∀ a, C9 = some a → a.block ≠ w1.heap.size) := Lib.hid (fun a e => by have h1 := (HG9.out.blkF a e).1; have h2 := Zo.out.lt; omega)
                  clear HG9 HG8 HB8 HB8w HB9 Q24 Q26
                  have hT : Touch (fun b => b = w1.heap.size) w9 (w9.setCell ⟨w1.heap.size, 2, none⟩ (.slice C9 (i + 0) k9)) := (Touch.refl (fun b => b = w1.heap.size) w9).setCell (p := ⟨w1.heap.size, 2, none⟩) rfl (.slice C9 (i + 0) k9)
                  replace Zl : Hid (Zx (w.heap.size) [.int .i64 f0, .bool f1, .slice (some ⟨b, off, none⟩) n2 (i + 1), .int .i64 f3, .slice A4 n4 c4, .int .i64 f5, .slice A6 n6 c6] (w9.setCell ⟨w1.heap.size, 2, none⟩ (.slice C9 (i + 0) k9))) := Lib.hid (Zl.out.touch hT (by have h1 := HB.out.size; omega))
                  replace Zr : Hid (Zx (w.heap.size + 1) [.int .i64 0, .bool false, .slice none 0 0, .int .i64 0, .slice none 0 0, .int .i64 0, .slice none 0 0] (w9.setCell ⟨w1.heap.size, 2, none⟩ (.slice C9 (i + 0) k9))) := Lib.hid (Zr.out.touch hT (by have h1 := HB.out.size; omega))
                  replace G2 : Hid (Grow 54 3 (w.heap.size + 1 + 1) (w9.setCell ⟨w1.heap.size, 2, none⟩ (.slice C9 (i + 0) k9)) C9 (i + 0) k9 ((L2.take i).drop 0 ++ (L2.take n2).drop (i + 1)) (fun _ => False)) := Lib.hid (G2.out.touch hT (fun a e h => No2.out a e h) (fun _ h => h.elim))
                  replace G4 : Hid (Grow 60 2 (w.heap.size + 1 + 1) (w9.setCell ⟨w1.heap.size, 2, none⟩ (.slice C9 (i + 0) k9)) B4 n4 k4 L4 (fun _ => False)) := Lib.hid (G4.out.touch hT (fun a e h => No4.out a e h) (fun _ h => h.elim))
                  replace G6 : Hid (Grow 60 2 (w.heap.size + 1 + 1) (w9.setCell ⟨w1.heap.size, 2, none⟩ (.slice C9 (i + 0) k9)) B6 n6 k6 L6 (fun _ => False)) := Lib.hid (G6.out.touch hT (fun a e h => No6.out a e h) (fun _ h => h.elim))
                  replace Zo : Hid (Zx (w1.heap.size) [.int .i64 f0, .bool f1, .slice C9 (i + 0) k9, .int .i64 f3, .slice B4 n4 k4, .int .i64 f5, .slice B6 n6 k6] (w9.setCell ⟨w1.heap.size, 2, none⟩ (.slice C9 (i + 0) k9))) := Lib.hid (Zo.out.put 2 (.slice C9 (i + 0) k9))
                  replace HB : Hid (Below w.heap.size w (w9.setCell ⟨w1.heap.size, 2, none⟩ (.slice C9 (i + 0) k9))) := Lib.hid (HB.out.trans (hT.below (fun b h => by rw [h]; omega) HB.out.size))
                  clear hT
                  have hsw3 : w9.heap.size ≤ (w9.setCell ⟨w1.heap.size, 2, none⟩ (.slice C9 (i + 0) k9)).heap.size := by (first | (simp; done) | (simp only [World.size_alloc, World.size_setCell]; omega))
                  generalize (w9.setCell ⟨w1.heap.size, 2, none⟩ (.slice C9 (i + 0) k9)) = w3 at *
                  obtain ⟨zl0, zl1, zl2, zl3, zl4, zl5, zl6, fl⟩ := Zl.out.c7
                  obtain ⟨zr0, zr1, zr2, zr3, zr4, zr5, zr6, fr⟩ := Zr.out.c7
                  obtain ⟨zo0, zo1, zo2, zo3, zo4, zo5, zo6, fo⟩ := Zo.out.c7
                  have E1 : Hid ((L2.take i).drop 0 ++ (L2.take n2).drop (i + 1) = relX x y L2) := Lib.hid (by rw [HP.out, erase_td HC2.out])
                  have E2 : Hid ((i + 0) = (relX x y L2).length) := Lib.hid (by rw [← E1.out, HM9.out])
                  go_wp2_with fail
                  go_meet
                  exact ⟨C9, (i + 0), k9, Zo.out, Zr.out, (by have h9 := G2.out; rw [E1.out] at h9; exact h9), G4.out, G6.out, P24.out, P26.out, E2.out, HB.out⟩)
              · skip
                have h1 : (0 : Int) ≤ (i : Int) := by omega
                have h2 : (i : Int) ≤ (c2 : Int) := by omega
                have h3 : (0 : Int) ≤ (i : Int) + 1 := by omega
                have h4 : (i : Int) + 1 ≤ (n2 : Int) := by omega
                have h5 : (n2 : Int) ≤ (c2 : Int) := by omega
                have h6 : IntKind.i64.wrap ((i : Int) + 1) = (i : Int) + 1 := IntWalk.i64_in _ (by omega)
                have h7 : ((i : Int) + 1).toNat = i + 1 := by omega
                have h8 : ¬ (c2 = i + 1) := hcz
                obtain ⟨zo0, zo1, zo2, zo3, zo4, zo5, zo6, fo⟩ := Zo.out.c7
                obtain ⟨yl0, yl1, yl2, yl3, yl4, yl5, yl6, fyl⟩ := (Zl.out.below ((Below.refl _ _).alloc (Nat.le_refl _) (.cells #[] 54))).c7
                obtain ⟨yo0, yo1, yo2, yo3, yo4, yo5, yo6, fyo⟩ := (Zo.out.below ((Below.refl _ _).alloc (Nat.le_refl _) (.cells #[] 54))).c7
                go_region_law (first
                  | (refine step_append_dat _ rfl _ _ 24 rfl 3 (by omega) 54 i0 _ 24 Try.underlying24 hi hz0 hz1 rfl hz2 wr.heap.size (some ⟨wr.heap.size, 0, none⟩) 0 0 [] (fun _ => False) rfl ((Grow.lit9 54 3 wr).below (Below.refl _ _).drew) (some ⟨b, off, none⟩) i c2 ((L2.take i).drop 0) (fun _ => False) rfl ((by have hx := Src.part (HL2.out.below ((HB.out.alloc HB.out.size (.cells #[] 54)).drew)) hI.out 0 i (by omega) (by omega); rw [Nat.sub_zero, Nat.zero_mul, Nat.add_zero] at hx; exact hx)) (fun b h => h.elim) (fun a e h => h) (by unfold maxLen; omega) (by omega) (by simp) ?_; intro C8 k8 w8 hG hT hA; have HB8a : Below wr.heap.size wr w8 := Touch.fresh9d hT rfl (Nat.le_refl _); have HB8 := Lib.hid (HB.out.trans (HB8a.mono HB.out.size)); have HB8w := Lib.hid HB8a; have HG8 := Lib.hid hG.copied; clear hG hT hA HB8a; obtain ⟨v0, v1, v2, v3, v4, v5, v6, fv⟩ := (Zl.out.below HB8w.out).c7)
                  | (refine step_append_dat _ rfl _ _ 24 rfl 3 (by omega) 54 i0 _ 24 Try.underlying24 hi hz0 hz1 rfl hz2 wr.heap.size C8 i k8 ((L2.take i).drop 0) (fun _ => False) rfl HG8.out (some ⟨b, off + (i + 1) * 3, none⟩) (n2 - (i + 1)) _ ((L2.take n2).drop (i + 1)) (fun _ => False) rfl (Src.part (HL2.out.below HB8.out) hI.out (i + 1) n2 (by omega) (Nat.le_refl _)) (fun b h => h.elim) (fun a e h => h) (by unfold maxLen; omega) (by omega) (by have h9 := HB8w.out.size; omega) ?_; intro C9 k9 w9 hG hT hA; have HB9a : Below wr.heap.size wr w9 := HB8w.out.trans (hT.below (fun z ⟨a, e, hx⟩ => by rw [hx]; exact (HG8.out.blkF a e).1) HB8w.out.size); have HB9 := Lib.hid HB9a; have HG9 := Lib.hid (hG.noF (fun z h => h.elim (fun h => h) (fun h => h))); clear hG hT hA HB9a; obtain ⟨q0, q1, q2, q3, q4, q5, q6, fq⟩ := (Zo.out.below HB9.out).c7))
                all_goals (
                  clear zl0 zl1 zl2 zl3 zl4 zl5 zl6 fl
                  clear zo0 zo1 zo2 zo3 zo4 zo5 zo6 fo
                  clear yl0 yl1 yl2 yl3 yl4 yl5 yl6 fyl yo0 yo1 yo2 yo3 yo4 yo5 yo6 fyo
                  try clear v0 v1 v2 v3 v4 v5 v6 fv
                  try clear q0 q1 q2 q3 q4 q5 q6 fq
                  clear h1 h2 h3 h4 h5 h6 h7 h8
                  have Q24 := far_apart G4.out HG9.out (Nat.le_refl _)
                  have Q26 := far_apart G6.out HG9.out (Nat.le_refl _)
                  have hwz : wr.heap.size ≤ wr.heap.size := Nat.le_refl _
                  replace Zl : Hid (Zx (w.heap.size) [.int .i64 f0, .bool f1, .slice (some ⟨b, off, none⟩) n2 c2, .int .i64 f3, .slice A4 n4 c4, .int .i64 f5, .slice A6 n6 c6] w9) := Lib.hid (Zl.out.below HB9.out)
                  replace Zr : Hid (Zx (w.heap.size + 1) [.int .i64 0, .bool false, .slice none 0 0, .int .i64 0, .slice none 0 0, .int .i64 0, .slice none 0 0] w9) := Lib.hid (Zr.out.below HB9.out)
                  replace Zo : Hid (Zx (w1.heap.size) [.int .i64 f0, .bool f1, .slice B2 n2 k2, .int .i64 f3, .slice B4 n4 k4, .int .i64 f5, .slice B6 n6 k6] w9) := Lib.hid (Zo.out.below HB9.out)
                  replace G2 : Hid (Grow 54 3 (w.heap.size + 1 + 1) w9 B2 n2 k2 L2 (fun _ => False)) := Lib.hid (G2.out.below HB9.out)
                  replace G4 : Hid (Grow 60 2 (w.heap.size + 1 + 1) w9 B4 n4 k4 L4 (fun _ => False)) := Lib.hid (G4.out.below HB9.out)
                  replace G6 : Hid (Grow 60 2 (w.heap.size + 1 + 1) w9 B6 n6 k6 L6 (fun _ => False)) := Lib.hid (G6.out.below HB9.out)
                  replace HB : Hid (Below w.heap.size w w9) := Lib.hid (HB.out.trans (HB9.out.mono HB.out.size))
                  have hsw9 : wr.heap.size ≤ w9.heap.size := (by have h1 := HB9.out.size; (try simp only [World.size_alloc, World.size_setCell] at h1); exact h1)
                  have hlo9 : w.heap.size + 1 + 1 ≤ wr.heap.size := by omega
                  replace G2 : Hid (Grow 54 3 (w.heap.size + 1 + 1) w9 C9 (i + (n2 - (i + 1))) k9 ((L2.take i).drop 0 ++ (L2.take n2).drop (i + 1)) (fun _ => False)) := Lib.hid (HG9.out.moreF (fun a e => by have h1 := (HG9.out.blkF a e).1; omega))
                  replace P24 := Lib.hid Q24.symm
                  replace P26 := Lib.hid Q26.symm
                  have HM9 := Lib.hid HG9.out.owns.lies.count
                  replace No2 : Hid (∀ a, C9 = some a → a.block ≠ w1.heap.size) := Lib.hid (fun a e => by have h1 := (HG9.out.blkF a e).1; have h2 := Zo.out.lt; omega)
                  clear HG9 HG8 HB8 HB8w HB9 Q24 Q26
                  have hT : Touch (fun b => b = w1.heap.size) w9 (w9.setCell ⟨w1.heap.size, 2, none⟩ (.slice C9 (i + (n2 - (i + 1))) k9)) := (Touch.refl (fun b => b = w1.heap.size) w9).setCell (p := ⟨w1.heap.size, 2, none⟩) rfl (.slice C9 (i + (n2 - (i + 1))) k9)
                  replace Zl : Hid (Zx (w.heap.size) [.int .i64 f0, .bool f1, .slice (some ⟨b, off, none⟩) n2 c2, .int .i64 f3, .slice A4 n4 c4, .int .i64 f5, .slice A6 n6 c6] (w9.setCell ⟨w1.heap.size, 2, none⟩ (.slice C9 (i + (n2 - (i + 1))) k9))) := Lib.hid (Zl.out.touch hT (by have h1 := HB.out.size; omega))
                  replace Zr : Hid (Zx (w.heap.size + 1) [.int .i64 0, .bool false, .slice none 0 0, .int .i64 0, .slice none 0 0, .int .i64 0, .slice none 0 0] (w9.setCell ⟨w1.heap.size, 2, none⟩ (.slice C9 (i + (n2 - (i + 1))) k9))) := Lib.hid (Zr.out.touch hT (by have h1 := HB.out.size; omega))
                  replace G2 : Hid (Grow 54 3 (w.heap.size + 1 + 1) (w9.setCell ⟨w1.heap.size, 2, none⟩ (.slice C9 (i + (n2 - (i + 1))) k9)) C9 (i + (n2 - (i + 1))) k9 ((L2.take i).drop 0 ++ (L2.take n2).drop (i + 1)) (fun _ => False)) := Lib.hid (G2.out.touch hT (fun a e h => No2.out a e h) (fun _ h => h.elim))
                  replace G4 : Hid (Grow 60 2 (w.heap.size + 1 + 1) (w9.setCell ⟨w1.heap.size, 2, none⟩ (.slice C9 (i + (n2 - (i + 1))) k9)) B4 n4 k4 L4 (fun _ => False)) := Lib.hid (G4.out.touch hT (fun a e h => No4.out a e h) (fun _ h => h.elim))
                  replace G6 : Hid (Grow 60 2 (w.heap.size + 1 + 1) (w9.setCell ⟨w1.heap.size, 2, none⟩ (.slice C9 (i + (n2 - (i + 1))) k9)) B6 n6 k6 L6 (fun _ => False)) := Lib.hid (G6.out.touch hT (fun a e h => No6.out a e h) (fun _ h => h.elim))
                  replace Zo : Hid (Zx (w1.heap.size) [.int .i64 f0, .bool f1, .slice C9 (i + (n2 - (i + 1))) k9, .int .i64 f3, .slice B4 n4 k4, .int .i64 f5, .slice B6 n6 k6] (w9.setCell ⟨w1.heap.size, 2, none⟩ (.slice C9 (i + (n2 - (i + 1))) k9))) := Lib.hid (Zo.out.put 2 (.slice C9 (i + (n2 - (i + 1))) k9))
                  replace HB : Hid (Below w.heap.size w (w9.setCell ⟨w1.heap.size, 2, none⟩ (.slice C9 (i + (n2 - (i + 1))) k9))) := Lib.hid (HB.out.trans (hT.below (fun b h => by rw [h]; omega) HB.out.size))
                  clear hT
                  have hsw3 : w9.heap.size ≤ (w9.setCell ⟨w1.heap.size, 2, none⟩ (.slice C9 (i + (n2 - (i + 1))) k9)).heap.size := by (first | (simp; done) | (simp only [World.size_alloc, World.size_setCell]; omega))
                  generalize (w9.setCell ⟨w1.heap.size, 2, none⟩ (.slice C9 (i + (n2 - (i + 1))) k9)) = w3 at *
                  obtain ⟨zl0, zl1, zl2, zl3, zl4, zl5, zl6, fl⟩ := Zl.out.c7
                  obtain ⟨zr0, zr1, zr2, zr3, zr4, zr5, zr6, fr⟩ := Zr.out.c7
                  obtain ⟨zo0, zo1, zo2, zo3, zo4, zo5, zo6, fo⟩ := Zo.out.c7
                  have E1 : Hid ((L2.take i).drop 0 ++ (L2.take n2).drop (i + 1) = relX x y L2) := Lib.hid (by rw [HP.out, erase_td HC2.out])
                  have E2 : Hid ((i + (n2 - (i + 1))) = (relX x y L2).length) := Lib.hid (by rw [← E1.out, HM9.out])
                  go_wp2_with fail
                  go_meet
                  exact ⟨C9, (i + (n2 - (i + 1))), k9, Zo.out, Zr.out, (by have h9 := G2.out; rw [E1.out] at h9; exact h9), G4.out, G6.out, P24.out, P26.out, E2.out, HB.out⟩)
          · skip
            have hcd : (decide (wrap64 (p2 - y) < 1)) = false := (by simp; omega)
            have HP : Hid (relX x y L2 = L2.set i (setC (wrap64 (p2 - y)) (.r [.i p0, .i p1, .i p2]))) := Lib.hid (relX_left (by omega) HNO.out HD.out (isF_t (k := 0) (d := .r [.i p0, .i p1, .i p2]) HX.out) hcl)
            clear hcl
            obtain ⟨g2, hgA, hglo2, hglt2, hgc2, hgcell, fg2⟩ := G2.out.elem (fun y hy => (x3_of (HT2.out y hy)).ic) HD.out
            subst hgA
            have r0 : wr.cell? ⟨g2, i * 3, none⟩ = some (.int .i64 (p0)) := hgcell 0 _ rfl
            have r1 : wr.cell? ⟨g2, i * 3 + 1, none⟩ = some (.int .i64 (p1)) := hgcell 1 _ rfl
            have r2 : wr.cell? ⟨g2, i * 3 + 2, none⟩ = some (.int .i64 (p2)) := hgcell 2 _ rfl
            clear hgcell
            obtain ⟨zl0, zl1, zl2, zl3, zl4, zl5, zl6, fl⟩ := Zl.out.c7
            obtain ⟨zo0, zo1, zo2, zo3, zo4, zo5, zo6, fo⟩ := Zo.out.c7
            go_upto_region 12 with (fail)
            clear hcd s0 s1 s2 r0 r1 r2 fg2
            clear zl0 zl1 zl2 zl3 zl4 zl5 zl6 fl
            clear zo0 zo1 zo2 zo3 zo4 zo5 zo6 fo
            have hT : Touch (fun b => b = g2) wr (wr.setCell ⟨g2, i * 3 + 2, none⟩ (.int .i64 (wrap64 (p2 - y)))) := (Touch.refl (fun b => b = g2) wr).setCell (p := ⟨g2, i * 3 + 2, none⟩) rfl (.int .i64 (wrap64 (p2 - y)))
            replace Zl : Hid (Zx (w.heap.size) [.int .i64 f0, .bool f1, .slice (some ⟨b, off, none⟩) n2 c2, .int .i64 f3, .slice A4 n4 c4, .int .i64 f5, .slice A6 n6 c6] (wr.setCell ⟨g2, i * 3 + 2, none⟩ (.int .i64 (wrap64 (p2 - y))))) := Lib.hid (Zl.out.touch hT (by have h1 := HB.out.size; omega))
            replace Zr : Hid (Zx (w.heap.size + 1) [.int .i64 0, .bool false, .slice none 0 0, .int .i64 0, .slice none 0 0, .int .i64 0, .slice none 0 0] (wr.setCell ⟨g2, i * 3 + 2, none⟩ (.int .i64 (wrap64 (p2 - y))))) := Lib.hid (Zr.out.touch hT (by have h1 := HB.out.size; omega))
            replace Zo : Hid (Zx (w1.heap.size) [.int .i64 f0, .bool f1, .slice (some ⟨g2, 0, none⟩) n2 k2, .int .i64 f3, .slice B4 n4 k4, .int .i64 f5, .slice B6 n6 k6] (wr.setCell ⟨g2, i * 3 + 2, none⟩ (.int .i64 (wrap64 (p2 - y))))) := Lib.hid (Zo.out.touch hT (by exact fun h => No2.out _ rfl h.symm))
            replace G4 : Hid (Grow 60 2 (w.heap.size + 1 + 1) (wr.setCell ⟨g2, i * 3 + 2, none⟩ (.int .i64 (wrap64 (p2 - y)))) B4 n4 k4 L4 (fun _ => False)) := Lib.hid (G4.out.touch hT (fun a e h => (fun x => P24.out _ a rfl e x.symm) h) (fun _ h => h.elim))
            replace G6 : Hid (Grow 60 2 (w.heap.size + 1 + 1) (wr.setCell ⟨g2, i * 3 + 2, none⟩ (.int .i64 (wrap64 (p2 - y)))) B6 n6 k6 L6 (fun _ => False)) := Lib.hid (G6.out.touch hT (fun a e h => (fun x => P26.out _ a rfl e x.symm) h) (fun _ h => h.elim))
            replace G2 : Hid (Grow 54 3 (w.heap.size + 1 + 1) (wr.setCell ⟨g2, i * 3 + 2, none⟩ (.int .i64 (wrap64 (p2 - y)))) (some ⟨g2, 0, none⟩) n2 k2 ((L2).set i (Dat.r [.i p0, .i p1, .i (wrap64 (p2 - y))])) (fun _ => False)) := Lib.hid (G2.out.set1 (fun y hy => (x3_of (HT2.out y hy)).ic) (X3.ic ⟨_, _, _, rfl⟩) HD.out (by omega) rfl)
            replace HB : Hid (Below w.heap.size w (wr.setCell ⟨g2, i * 3 + 2, none⟩ (.int .i64 (wrap64 (p2 - y))))) := Lib.hid (HB.out.trans (hT.below (fun b h => by rw [h]; omega) HB.out.size))
            clear hT
            have hsw3 : wr.heap.size ≤ (wr.setCell ⟨g2, i * 3 + 2, none⟩ (.int .i64 (wrap64 (p2 - y)))).heap.size := by (first | (simp; done) | (simp only [World.size_alloc, World.size_setCell]; omega))
            generalize (wr.setCell ⟨g2, i * 3 + 2, none⟩ (.int .i64 (wrap64 (p2 - y)))) = w3 at *
            obtain ⟨zl0, zl1, zl2, zl3, zl4, zl5, zl6, fl⟩ := Zl.out.c7
            obtain ⟨zr0, zr1, zr2, zr3, zr4, zr5, zr6, fr⟩ := Zr.out.c7
            obtain ⟨zo0, zo1, zo2, zo3, zo4, zo5, zo6, fo⟩ := Zo.out.c7
            obtain ⟨zl0, zl1, zl2, zl3, zl4, zl5, zl6, fl⟩ := Zl.out.c7
            obtain ⟨zr0, zr1, zr2, zr3, zr4, zr5, zr6, fr⟩ := Zr.out.c7
            obtain ⟨zo0, zo1, zo2, zo3, zo4, zo5, zo6, fo⟩ := Zo.out.c7
            have E1 : Hid (L2.set i (Dat.r [.i p0, .i p1, .i (wrap64 (p2 - y))]) = relX x y L2) := Lib.hid HP.out.symm
            have E2 : Hid (n2 = (relX x y L2).length) := Lib.hid (by rw [HP.out, List.length_set, HC2.out])
            go_wp2_with fail
            refine bodyPost_ret (v := .agg #[.int .i64 f0, .bool f1, .slice (some ⟨g2, 0, none⟩) n2 k2, .int .i64 f3, .slice B4 n4 k4, .int .i64 f5, .slice B6 n6 k6]) ?hres rfl ?hpost
            case hres =>
              refine results_box rfl _ _ (w.heap.size + 1) [.int .i64 f0, .bool f1, .slice (some ⟨g2, 0, none⟩) n2 k2, .int .i64 f3, .slice B4 n4 k4, .int .i64 f5, .slice B6 n6 k6] _ rfl ?_ Try.underlying27 rfl (by kernel_rfl)
              refine Zx.box ?_
              repeat (first | with_reducible exact Zr.out | with_reducible refine Zx.drewB ?_ | with_reducible apply Zx.put7)
            case hpost =>
              suffices h9 : ∀ w' : World, Touch (fun b => b = w.heap.size + 1) w3 w' → GivesL f0 f1 (relX x y L2) (relX x y L2).length f3 L4 n4 f5 L6 n6 w (.returned (.agg #[.int .i64 f0, .bool f1, .slice (some ⟨g2, 0, none⟩) n2 k2, .int .i64 f3, .slice B4 n4 k4, .int .i64 f5, .slice B6 n6 k6])) w' from h9 _ (by repeat (first | with_reducible exact Touch.refl _ _ | with_reducible refine Touch.drew ?_ | with_reducible refine Touch.put7 ?_ (Eq.refl _)))
              intro w' hT9
              obtain ⟨hL9, hB9⟩ := Link3.fin (W := w) (g := w.heap.size + 1) G2.out G4.out G6.out P24.out P26.out P46.out hT9 HB.out (by omega) (by omega)
              exact GivesL.of ⟨_, _, _, _, _, _, rfl, hL9, hB9⟩ E1.out E2.out
        · skip
          obtain ⟨zl0, zl1, zl2, zl3, zl4, zl5, zl6, fl⟩ := Zl.out.c7
          have hb0 : (p0 == x) = false := by simpa using e
          have hb1 : (p0 != x) = true := by simpa using e
          have HNX := Lib.hid (no_next HNO.out HD.out (isF_f (k := 0) (d := .r [.i p0, .i p1, .i p2]) e))
          clear e
          go_wp2_with fail
          go_roundw
          case rel => exact ⟨i + 1, by omega, by go_num, HNX.out, HBW.out⟩
          case measure => (simp [intOf]; try omega)
      · skip
        obtain rfl : n2 = i := by omega
        have hnone : ∀ d ∈ L2, isF 0 x d = false := fun d hd => by obtain ⟨j, hj⟩ := List.mem_iff_getElem?.1 hd; exact HNO.out j d (by have h1 := HC2.out; have h2 := (List.getElem?_eq_some_iff.1 hj).1; omega) hj
        have E1 : Hid (L2 = relX x y L2) := Lib.hid (relX_none hnone).symm
        have E2 : Hid (n2 = (relX x y L2).length) := Lib.hid (by rw [relX_none hnone, HC2.out])
        clear hnone
        obtain ⟨zl0, zl1, zl2, zl3, zl4, zl5, zl6, fl⟩ := Zl.out.c7
        obtain ⟨zr0, zr1, zr2, zr3, zr4, zr5, zr6, fr⟩ := Zr.out.c7
        obtain ⟨zo0, zo1, zo2, zo3, zo4, zo5, zo6, fo⟩ := Zo.out.c7
        go_wp2_with fail
        refine bodyPost_ret (v := .agg #[.int .i64 f0, .bool f1, .slice B2 n2 k2, .int .i64 f3, .slice B4 n4 k4, .int .i64 f5, .slice B6 n6 k6]) ?hres rfl ?hpost
        case hres =>
          refine results_box rfl _ _ (w.heap.size + 1) [.int .i64 f0, .bool f1, .slice B2 n2 k2, .int .i64 f3, .slice B4 n4 k4, .int .i64 f5, .slice B6 n6 k6] _ rfl ?_ Try.underlying27 rfl (by kernel_rfl)
          refine Zx.box ?_
          repeat (first | with_reducible exact Zr.out | with_reducible refine Zx.drewB ?_ | with_reducible apply Zx.put7)
        case hpost =>
          suffices h9 : ∀ w' : World, Touch (fun b => b = w.heap.size + 1) wr w' → GivesL f0 f1 (relX x y L2) (relX x y L2).length f3 L4 n4 f5 L6 n6 w (.returned (.agg #[.int .i64 f0, .bool f1, .slice B2 n2 k2, .int .i64 f3, .slice B4 n4 k4, .int .i64 f5, .slice B6 n6 k6])) w' from h9 _ (by repeat (first | with_reducible exact Touch.refl _ _ | with_reducible refine Touch.drew ?_ | with_reducible refine Touch.put7 ?_ (Eq.refl _)))
          intro w' hT9
          obtain ⟨hL9, hB9⟩ := Link3.fin (W := w) (g := w.heap.size + 1) G2.out G4.out G6.out P24.out P26.out P46.out hT9 HB.out (by omega) (by omega)
          exact GivesL.of ⟨_, _, _, _, _, _, rfl, hL9, hB9⟩ E1.out E2.out
end Go.Proofs.Ytdedioghljkflaa
