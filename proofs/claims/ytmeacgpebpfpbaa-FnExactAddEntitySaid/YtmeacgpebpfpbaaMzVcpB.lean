/- Chapter 12: boxes of a copy. Chapter 9: messages' copies, the reference's. Chapter 9: an entity's copy, the reference's. Chapter 12: a vat's copy, the reference's. -/
import Derived.Test.YtmeacgpebpfpbaaVatX
import Derived.Deep.RegionHeld3
import Derived.Deep.RegionLaw
import Derived.Deep.Cut
import Derived.Deep.CutRange
import Derived.LoopTactic
import Derived.Lib.Hide
import Derived.Deep.QuietTactic
import Derived.BigQuiet
import Derived.Deep.RegionWith
import Derived.Handy
import Derived.Test.YtmeacgpebpfpbaaHold
import Derived.Test.YtmeacgpebpfpbaaTyE1
import Derived.Test.YtmeacgpebpfpbaaMzCopS
import Derived.Test.YtmeacgpebpfpbaaMzLnkC
import Derived.Test.YtmeacgpebpfpbaaMzCopM
section
namespace Go.Proofs.Ytmeacgpebpfpbaa
open Go.RowKit
set_option linter.unusedVariables false
set_option linter.unusedSimpArgs false
def Cp0 (W : World) (v : List Value) (w : World) : Prop := Below W.heap.size W w ∧ Zx W.heap.size v w ∧ Zx (W.heap.size + 1) [.int .i64 0, .slice none 0 0, .slice none 0 0, .slice none 0 0, .slice none 0 0] w ∧ W.heap.size + 1 + 1 ≤ w.heap.size
def CpB (W : World) (o : Nat) (v oc : List Value) (w : World) : Prop := Cp0 W v w ∧ Zx o oc w ∧ W.heap.size + 1 + 1 ≤ o
theorem Cp0.below {W w w' : World} {v : List Value} (h : Cp0 W v w) (hb : Below w.heap.size w w') : Cp0 W v w' := ⟨h.1.trans (hb.mono h.1.size), h.2.1.below hb, h.2.2.1.below hb, Nat.le_trans h.2.2.2 hb.size⟩
theorem CpB.below {W w w' : World} {o : Nat} {v oc : List Value} (h : CpB W o v oc w) (hb : Below w.heap.size w w') : CpB W o v oc w' := ⟨h.1.below hb, h.2.1.below hb, h.2.2⟩
theorem CpB.touch {W w w' : World} {o : Nat} {v oc : List Value} {S : Nat → Prop} (h : CpB W o v oc w) (ht : Touch S w w') (hS : ∀ b, S b → W.heap.size + 1 + 1 ≤ b ∧ b ≠ o) : CpB W o v oc w' :=
  ⟨⟨h.1.1.trans (ht.below (fun b hb => by have h1 := (hS b hb).1; omega) h.1.1.size), h.1.2.1.touch ht (fun hs => by have h1 := (hS _ hs).1; omega), h.1.2.2.1.touch ht (fun hs => by have h1 := (hS _ hs).1; omega), Nat.le_trans h.1.2.2.2 ht.size⟩, h.2.1.touch ht (fun hs => (hS _ hs).2 rfl), h.2.2⟩
theorem CpB.put {W w : World} {o : Nat} {v oc : List Value} (h : CpB W o v oc w) (j : Nat) (x : Value) : CpB W o v (oc.set j x) (w.setCell ⟨o, j, none⟩ x) :=
  ⟨⟨h.1.1.setCell (p := ⟨o, j, none⟩) (by show W.heap.size ≤ o; have h1 := h.2.2; omega) x, h.1.2.1.far (by have h1 := h.2.2; omega), h.1.2.2.1.far (by have h1 := h.2.2; omega), by rw [World.size_setCell]; exact h.1.2.2.2⟩, h.2.1.put j x, h.2.2⟩
theorem CpB.lt {W w : World} {o : Nat} {v oc : List Value} (h : CpB W o v oc w) : o < w.heap.size := h.2.1.lt
theorem CpB.new {W w : World} {v : List Value} (h : Cp0 W v w) (oc : Array Value) (T : TypeId) : CpB W w.heap.size v oc.toList (w.alloc (.cells oc T)) := ⟨h.below ((Below.refl _ _).alloc (Nat.le_refl _) _), Zx.new w oc T, h.2.2.2⟩
theorem Cp0.start (W : World) (v : Array Value) : Cp0 W v.toList ((W.alloc (.cells v 29)).alloc (.cells #[.int .i64 0, .slice none 0 0, .slice none 0 0, .slice none 0 0, .slice none 0 0] 29)) := by
  have h1 := Zx.new (W.alloc (.cells v 29)) #[.int .i64 0, .slice none 0 0, .slice none 0 0, .slice none 0 0, .slice none 0 0] 29
  simp only [World.size_alloc] at h1
  exact ⟨by go_grown, (Zx.new W v 29).below ((Below.refl _ _).alloc (Nat.le_refl _) _), h1, by simp⟩
theorem Hold.vat {w : World} {L2 : List Dat} {A2 : Option Addr} {n2 c2 : Nat} {P2 P : Nat → Prop} (h : Hold 153 7 w A2 n2 c2 L2 P2) (hP : ∀ b, P2 b → P b) : VatX P w [] none 0 0 L2 A2 n2 c2 [] none 0 0 [] none 0 0 :=
  ⟨(fun _ => False), P2, (fun _ => False), (fun _ => False), ⟨Hold.nil _ _ _ _, h, Hold.nil _ _ _ _, Hold.nil _ _ _ _⟩, ⟨fun b h => h.elim, fun b h => h.elim, fun b h => h.elim, fun b _ h => h, fun b _ h => h, fun b h => h.elim⟩, ⟨fun b h => h.elim, hP, fun b h => h.elim, fun b h => h.elim⟩⟩
end Go.Proofs.Ytmeacgpebpfpbaa
end
section
namespace Go.Proofs.Ytmeacgpebpfpbaa
open Go.RowKit
set_option linter.unusedVariables false
set_option linter.unusedSimpArgs false
theorem Box.lows12 {b B : Nat} {cs : List Value} {w w' : World} (h : Box b cs w) (hb : Below B w w') (hB : b < B) : Box b cs w' := ⟨Nat.lt_of_lt_of_le h.1 hb.size, fun i v hv => (hb.cell (p := ⟨b, i, none⟩) hB).trans (h.2 i v hv)⟩
theorem Src.lit12 {w : World} {k q : Nat} {d : Dat} {xs : List Value} {C : Array Value} {B : Nat → Prop} {E : TypeId} (hq : w.heap.size = q) (hC : C.toList = xs) (ho : Owns w d xs B) (hw : d.width = k) (hB : ∀ b, B b → b < w.heap.size) : Src k (w.alloc (.cells C E)) (some ⟨q, 0, none⟩) 1 [d] B := by
  subst hq
  exact Src.lit hC ho hw hB
set_option maxRecDepth 100000 in
set_option maxHeartbeats 8000000 in
theorem l9CopyS (L : List Dat) (A : Option Addr) (n c : Nat) (w : World) (h : Lies w (.l L) [.slice A n c]) (ht : ∀ x ∈ L, Has tySent x) (hq : (Dat.l L).bulk ≤ 1099511627776) : Calls Try.prog 153 #[.slice A n c] w (GrewD 153 7 L w) := by
  obtain ⟨i0, hi, hz0, hz1, hz2⟩ := info_parts infoValue
  obtain ⟨i1, hj, hy0, hy1, hy2⟩ := info_parts infoSent
  have hn : n ≤ 1099511627776 := by have := h.count; simp only [Dat.bulk] at hq; omega
  have hn2s : ∀ x ∈ L, x.bulk ≤ 1099511627776 := fun x hx => by have h1 := bulk_mem hx; simp only [Dat.bulk] at hq; omega
  have H := Lib.hid h
  have HT := Lib.hid ht
  have HC := Lib.hid h.count
  have HN2 := Lib.hid hn2s
  have G0 := Lib.hid (Grow.lit9 153 7 w)
  clear h ht hq hn2s
  go_enter Try.func153, Try.ntmps153
  go_wp2_with fail
  go_loopw [3, 4] (fun ov iv wr => ∃ (i : Nat) (A' : Option Addr) (c' : Nat) (Bs : Nat → Prop), i ≤ n ∧ iv = .int .i64 i ∧ ov = .slice A' i c' ∧ Grow 153 7 w.heap.size wr A' i c' (L.take i) Bs ∧ (∀ b, Bs b → w.heap.size ≤ b ∧ b < wr.heap.size) ∧ Below w.heap.size w wr) (fun _ iv _ => n - (intOf iv).toNat)
  case atStart => exact ⟨0, _, _, _, Nat.zero_le _, rfl, rfl, G0.out, (fun b hb => hb.elim), by go_grown⟩
  case round =>
    obtain ⟨i, A', c', Bs, hin, rfl, rfl, hG, hBs, hb⟩ := hrel
    by_cases hlt : i < n
    · obtain ⟨b, off, d, xs, rfl, hbw, hzi, hlie, hlen, hcell⟩ := (H.out.below hb).elem (fun x hx => (HT.out x hx).width) hlt
      have hdbig := HN2.out d (List.mem_of_getElem? hzi)
      obtain ⟨f0, f1, L2, A2, n2, c2, f3, f4_0, f4_1, f4_2, rfl, rfl, hf1, hl2, ht2, hm2⟩ := invSent (HT.out d (List.mem_of_getElem? hzi)) hlie
      have hn2 : n2 ≤ 1099511627776 := by have h1 := hl2.count; simp only [Dat.bulk, bulkAll] at hdbig; omega
      have r0 : wr.cell? ⟨b, off + i * 7, none⟩ = some (.int .i64 f0) := hcell 0 _ rfl
      have r1 : wr.cell? ⟨b, off + i * 7 + 1, none⟩ = some (.string f1) := hcell 1 _ rfl
      have r2 : wr.cell? ⟨b, off + i * 7 + 2, none⟩ = some (.slice A2 n2 c2) := hcell 2 _ rfl
      have r3 : wr.cell? ⟨b, off + i * 7 + 3, none⟩ = some (.int .i64 f3) := hcell 3 _ rfl
      have r4 : wr.cell? ⟨b, off + i * 7 + 4, none⟩ = some (.int .i64 f4_0) := hcell 4 _ rfl
      have r5 : wr.cell? ⟨b, off + i * 7 + 5, none⟩ = some (.int .i64 f4_1) := hcell 5 _ rfl
      have r6 : wr.cell? ⟨b, off + i * 7 + 6, none⟩ = some (.int .i64 f4_2) := hcell 6 _ rfl
      have R2 : ∀ o1 o2, ((wr.alloc o1).alloc o2).cell? ⟨b, off + i * 7 + 2, none⟩ = some (.slice A2 n2 c2) := fun o1 o2 => ((((Below.refl wr.heap.size wr).alloc (Nat.le_refl _) o1).alloc (by simp) o2).cell (p := ⟨b, off + i * 7 + 2, none⟩) hbw).trans r2
      have hA' : ∀ a, A' = some a → w.heap.size ≤ a.block ∧ a.block < wr.heap.size := fun a e => by
        subst e
        have h9 := hG.own a.block (by simp [Value.ownBlock])
        exact ⟨h9.1, h9.2.1⟩
      have HA := Lib.hid hA'
      have HGr := Lib.hid hG
      have HBs := Lib.hid hBs
      have HB := Lib.hid hb
      have HZ := Lib.hid hzi
      have HL2 := Lib.hid hl2
      have HT2 := Lib.hid ht2
      have hsw := hb.size
      have G1 := Lib.hid (Grow.lit9 31 2 (wr.alloc (.cells #[.int .i64 f0, .string f1, .slice A2 n2 c2, .int .i64 f3, .int .i64 f4_0, .int .i64 f4_1, .int .i64 f4_2] 153)))
      simp only [World.size_alloc] at G1
      have B1 : Hid (Below wr.heap.size wr ((wr.alloc (.cells #[.int .i64 f0, .string f1, .slice A2 n2 c2, .int .i64 f3, .int .i64 f4_0, .int .i64 f4_1, .int .i64 f4_2] 153)).alloc (.cells #[] 31))) := Lib.hid (by go_grown)
      have X1 := Lib.hid ((Box.new wr #[.int .i64 f0, .string f1, .slice A2 n2 c2, .int .i64 f3, .int .i64 f4_0, .int .i64 f4_1, .int .i64 f4_2] 153).alloc (.cells #[] 31))
      have F1 : Hid (∀ j, ((wr.alloc (.cells #[.int .i64 f0, .string f1, .slice A2 n2 c2, .int .i64 f3, .int .i64 f4_0, .int .i64 f4_1, .int .i64 f4_2] 153)).alloc (.cells #[] 31)).frozen? ⟨wr.heap.size, j, none⟩ = false) := Lib.hid (fun j => by simp [go_sem])
      clear hG hBs hb hzi hcell hlie hlen hl2 ht2 hA' G0 hdbig
      go_wp2_with (first
        | (refine wpList_append_dat _ rfl _ _ 35 rfl 2 (by omega) 31 i0 _ 16 Try.underlying35 hi hz0 hz1 rfl hz2 (wr.heap.size + 1) _ 0 0 [] _ rfl G1.out A2 n2 c2 L2 (fun _ => False) rfl (Src.of_lies (HL2.out.below B1.out) (fun x hx => (HT2.out x hx).width) (fun x hx => Has.flat rfl (HT2.out x hx))) (fun b h => h.elim) (fun a e h => h) (by unfold maxLen; omega) (by omega) (by simp) ?_; intro A8 c8 w8 hG8 hT8 hA8; (have HO8 := Lib.hid (hG8.rngO)); (have hb8 : Below (wr.heap.size + 1) ((wr.alloc (.cells #[.int .i64 f0, .string f1, .slice A2 n2 c2, .int .i64 f3, .int .i64 f4_0, .int .i64 f4_1, .int .i64 f4_2] 153)).alloc (.cells #[] 31)) w8 := hT8.below (fun b ⟨a, e, hb⟩ => by obtain rfl := Option.some.inj e; rw [hb]; exact Nat.le_refl _) (by simp)); (have hs8 := hb8.size); simp only [World.size_alloc] at hs8; (have X8 := Lib.hid (Box.lows12 X1.out hb8 (by omega))); (have F8 := Lib.hid (fun j => (hb8.frozen (p := ⟨wr.heap.size, j, none⟩) (by show wr.heap.size < wr.heap.size + 1; omega)).trans (F1.out j))); (have HB8 := Lib.hid (B1.out.trans (hb8.mono (by omega)))); clear hG8 hT8 hA8 hb8; (obtain ⟨y0, y1, y2, y3, y4, y5, y6⟩ := X8.out.c7); (have fy := F8.out))
        | (refine wpList_append_dat _ rfl _ _ 25 rfl 7 (by omega) 153 i1 _ 80 Try.underlying25 hj hy0 hy1 rfl hy2 w.heap.size A' i c' (L.take i) Bs rfl (HGr.out.below ((HB8.out.setCell (p := ⟨wr.heap.size, 2, none⟩) (Nat.le_refl _) _).alloc (by simp only [World.size_setCell]; omega) _)) (some ⟨w8.heap.size, 0, none⟩) 1 1 [.r [.i f0, .s f1, .l L2, .i f3, .r [.i f4_0, .i f4_1, .i f4_2]]] (rng (wr.heap.size + 1) w8.heap.size) rfl (Src.lit12 (by simp only [World.size_setCell]) rfl (ownSent (HO8.out.touch ((Touch.refl (fun b => b = wr.heap.size) w8).setCell (p := ⟨wr.heap.size, 2, none⟩) rfl _) (fun b hb e => by have h1 := hb.1; omega)) (by omega)) rfl (fun b hb => by simp only [World.size_setCell]; exact hb.2)) (fun b hb hb2 => by have h1 := (HBs.out b hb).2; have h2 := hb2.1; omega) (fun a e hb2 => by have h1 := (HA.out a e).2; have h2 := hb2.1; omega) (by unfold maxLen; omega) (by omega) (by simp only [World.size_alloc, World.size_setCell]; omega) ?_; intro A9 c9 w9 hG9 hT9 hA9; (have HG9 := Lib.hid hG9); (have hs9 := hT9.size); simp only [World.size_alloc, World.size_setCell] at hs9; (have HB9 := Lib.hid ((HB.out.trans (((HB8.out.setCell (p := ⟨wr.heap.size, 2, none⟩) (Nat.le_refl _) _).alloc (by simp only [World.size_setCell]; omega) _).mono HB.out.size)).trans (hT9.below (fun b ⟨a, e, hb⟩ => by have h1 := (HA.out a e).1; omega) (by simp only [World.size_alloc, World.size_setCell]; omega)))); clear hG9 hT9 hA9))
      go_roundw
      case rel =>
        refine ⟨i + 1, A9, c9, (fun b => Bs b ∨ rng (wr.heap.size + 1) w8.heap.size b), by omega, by go_num, rfl, ?_, ?_, HB9.out⟩
        · rw [List.take_add_one, HZ.out]
          exact HG9.out
        · intro b hb
          rcases hb with hb | hb
          · have h1 := HBs.out b hb
            omega
          · have h1 := hb.1
            have h2 := hb.2
            omega
      case measure => simp [intOf]; omega
    · obtain rfl : n = i := by omega
      have HGr : Hid (GrewD 153 7 L w (.returned (.slice A' n c')) wr) := by
        have hA' : ∀ a, A' = some a → w.heap.size ≤ a.block ∧ a.block < wr.heap.size := fun a e => by
          subst e
          have h9 := hG.own a.block (by simp [Value.ownBlock])
          exact ⟨h9.1, h9.2.1⟩
        rw [List.take_of_length_le (by have := HC.out; omega)] at hG
        exact Lib.hid ⟨A', n, c', rfl, Hold.of_grow hG (fun b h1 h2 => ⟨h1, h2⟩) hBs, hb⟩
      clear hG hBs hb
      go_wp2_with fail
      go_ret
      exact HGr.out
end Go.Proofs.Ytmeacgpebpfpbaa
end
section
namespace Go.Proofs.Ytmeacgpebpfpbaa
open Go.RowKit
set_option linter.unusedVariables false
set_option linter.unusedSimpArgs false
set_option maxRecDepth 100000 in
set_option maxHeartbeats 16000000 in
theorem specCopE (f0 : Int) (f1 : Int) (L2 : List Dat) (A2 : Option Addr) (n2 c2 : Nat) (f3 : Int) (f4_0 : Int) (f4_1 : Int) (L5 : List Dat) (A5 : Option Addr) (n5 c5 : Nat) (L6 : List Dat) (A6 : Option Addr) (n6 c6 : Nat) (f7 : Int) (f8 : Int) (f9 : Int) (f10 : Int) (w : World) (hl2 : Lies w (.l L2) [.slice A2 n2 c2]) (ht2 : ∀ x ∈ L2, Has tyValue x) (hq2 : (Dat.l L2).bulk ≤ 549755813888) (hl5 : Lies w (.l L5) [.slice A5 n5 c5]) (ht5 : ∀ x ∈ L5, Has tySent x) (hq5 : (Dat.l L5).bulk ≤ 549755813888) (hl6 : Lies w (.l L6) [.slice A6 n6 c6]) (ht6 : ∀ x ∈ L6, Has tyAsker x) (hq6 : (Dat.l L6).bulk ≤ 549755813888) :
    Calls Try.prog 98 #[.agg #[.int .i64 f0, .int .i64 f1, .slice A2 n2 c2, .int .i64 f3, .int .i64 f4_0, .int .i64 f4_1, .slice A5 n5 c5, .slice A6 n6 c6, .int .i64 f7, .int .i64 f8, .int .i64 f9, .int .i64 f10]] w (CopEntity f0 f1 L2 n2 f3 f4_0 f4_1 L5 n5 L6 n6 f7 f8 f9 f10 w) := by
  obtain ⟨i0, hi0, hx0, hy0, hz0⟩ := info_parts infoValue
  obtain ⟨i1, hi1, hx1, hy1, hz1⟩ := info_parts infoAsker
  have hn2 : n2 ≤ 1099511627776 := by have h1 := hl2.count; simp only [Dat.bulk] at hq2; omega
  have hn5 : n5 ≤ 1099511627776 := by have h1 := hl5.count; simp only [Dat.bulk] at hq5; omega
  have hn6 : n6 ≤ 1099511627776 := by have h1 := hl6.count; simp only [Dat.bulk] at hq6; omega
  have HL2 := Lib.hid hl2
  have HT2 := Lib.hid ht2
  have HL5 := Lib.hid hl5
  have HT5 := Lib.hid ht5
  have HL6 := Lib.hid hl6
  have HT6 := Lib.hid ht6
  clear hl2 ht2 hl5 ht5 hl6 ht6
  have HB : Hid (Below w.heap.size w w) := Lib.hid (Below.refl _ _)
  have Zl : Hid (Zx (w.heap.size) [.int .i64 f0, .int .i64 f1, .slice A2 n2 c2, .int .i64 f3, .int .i64 f4_0, .int .i64 f4_1, .slice A5 n5 c5, .slice A6 n6 c6, .int .i64 f7, .int .i64 f8, .int .i64 f9, .int .i64 f10] (w.alloc (.cells #[.int .i64 f0, .int .i64 f1, .slice A2 n2 c2, .int .i64 f3, .int .i64 f4_0, .int .i64 f4_1, .slice A5 n5 c5, .slice A6 n6 c6, .int .i64 f7, .int .i64 f8, .int .i64 f9, .int .i64 f10] 38))) := Lib.hid (Zx.new _ _ _)
  replace HB : Hid (Below w.heap.size w (w.alloc (.cells #[.int .i64 f0, .int .i64 f1, .slice A2 n2 c2, .int .i64 f3, .int .i64 f4_0, .int .i64 f4_1, .slice A5 n5 c5, .slice A6 n6 c6, .int .i64 f7, .int .i64 f8, .int .i64 f9, .int .i64 f10] 38))) := Lib.hid (HB.out.alloc HB.out.size _)
  replace Zl : Hid (Zx (w.heap.size) [.int .i64 f0, .int .i64 f1, .slice A2 n2 c2, .int .i64 f3, .int .i64 f4_0, .int .i64 f4_1, .slice A5 n5 c5, .slice A6 n6 c6, .int .i64 f7, .int .i64 f8, .int .i64 f9, .int .i64 f10] ((w.alloc (.cells #[.int .i64 f0, .int .i64 f1, .slice A2 n2 c2, .int .i64 f3, .int .i64 f4_0, .int .i64 f4_1, .slice A5 n5 c5, .slice A6 n6 c6, .int .i64 f7, .int .i64 f8, .int .i64 f9, .int .i64 f10] 38)).alloc (.cells #[.int .i64 0, .int .i64 0, .slice none 0 0, .int .i64 0, .int .i64 0, .int .i64 0, .slice none 0 0, .slice none 0 0, .int .i64 0, .int .i64 0, .int .i64 0, .int .i64 0] 38))) := Lib.hid (Zl.out.below ((Below.refl _ _).alloc (Nat.le_refl _) _))
  have Zr : Hid (Zx (w.heap.size + 1) [.int .i64 0, .int .i64 0, .slice none 0 0, .int .i64 0, .int .i64 0, .int .i64 0, .slice none 0 0, .slice none 0 0, .int .i64 0, .int .i64 0, .int .i64 0, .int .i64 0] ((w.alloc (.cells #[.int .i64 f0, .int .i64 f1, .slice A2 n2 c2, .int .i64 f3, .int .i64 f4_0, .int .i64 f4_1, .slice A5 n5 c5, .slice A6 n6 c6, .int .i64 f7, .int .i64 f8, .int .i64 f9, .int .i64 f10] 38)).alloc (.cells #[.int .i64 0, .int .i64 0, .slice none 0 0, .int .i64 0, .int .i64 0, .int .i64 0, .slice none 0 0, .slice none 0 0, .int .i64 0, .int .i64 0, .int .i64 0, .int .i64 0] 38))) := Lib.hid (by have h1 := Zx.new (w.alloc (.cells #[.int .i64 f0, .int .i64 f1, .slice A2 n2 c2, .int .i64 f3, .int .i64 f4_0, .int .i64 f4_1, .slice A5 n5 c5, .slice A6 n6 c6, .int .i64 f7, .int .i64 f8, .int .i64 f9, .int .i64 f10] 38)) #[.int .i64 0, .int .i64 0, .slice none 0 0, .int .i64 0, .int .i64 0, .int .i64 0, .slice none 0 0, .slice none 0 0, .int .i64 0, .int .i64 0, .int .i64 0, .int .i64 0] 38; (try simp only [World.size_alloc, World.size_setCell] at h1); exact h1)
  replace HB : Hid (Below w.heap.size w ((w.alloc (.cells #[.int .i64 f0, .int .i64 f1, .slice A2 n2 c2, .int .i64 f3, .int .i64 f4_0, .int .i64 f4_1, .slice A5 n5 c5, .slice A6 n6 c6, .int .i64 f7, .int .i64 f8, .int .i64 f9, .int .i64 f10] 38)).alloc (.cells #[.int .i64 0, .int .i64 0, .slice none 0 0, .int .i64 0, .int .i64 0, .int .i64 0, .slice none 0 0, .slice none 0 0, .int .i64 0, .int .i64 0, .int .i64 0, .int .i64 0] 38))) := Lib.hid (HB.out.alloc HB.out.size _)
  replace Zl : Hid (Zx (w.heap.size) [.int .i64 f0, .int .i64 f1, .slice A2 n2 c2, .int .i64 f3, .int .i64 f4_0, .int .i64 f4_1, .slice A5 n5 c5, .slice A6 n6 c6, .int .i64 f7, .int .i64 f8, .int .i64 f9, .int .i64 f10] (((w.alloc (.cells #[.int .i64 f0, .int .i64 f1, .slice A2 n2 c2, .int .i64 f3, .int .i64 f4_0, .int .i64 f4_1, .slice A5 n5 c5, .slice A6 n6 c6, .int .i64 f7, .int .i64 f8, .int .i64 f9, .int .i64 f10] 38)).alloc (.cells #[.int .i64 0, .int .i64 0, .slice none 0 0, .int .i64 0, .int .i64 0, .int .i64 0, .slice none 0 0, .slice none 0 0, .int .i64 0, .int .i64 0, .int .i64 0, .int .i64 0] 38)).alloc (.cells #[.int .i64 f0, .int .i64 f1, .slice A2 n2 c2, .int .i64 f3, .int .i64 f4_0, .int .i64 f4_1, .slice A5 n5 c5, .slice A6 n6 c6, .int .i64 f7, .int .i64 f8, .int .i64 f9, .int .i64 f10] 38))) := Lib.hid (Zl.out.below ((Below.refl _ _).alloc (Nat.le_refl _) _))
  replace Zr : Hid (Zx (w.heap.size + 1) [.int .i64 0, .int .i64 0, .slice none 0 0, .int .i64 0, .int .i64 0, .int .i64 0, .slice none 0 0, .slice none 0 0, .int .i64 0, .int .i64 0, .int .i64 0, .int .i64 0] (((w.alloc (.cells #[.int .i64 f0, .int .i64 f1, .slice A2 n2 c2, .int .i64 f3, .int .i64 f4_0, .int .i64 f4_1, .slice A5 n5 c5, .slice A6 n6 c6, .int .i64 f7, .int .i64 f8, .int .i64 f9, .int .i64 f10] 38)).alloc (.cells #[.int .i64 0, .int .i64 0, .slice none 0 0, .int .i64 0, .int .i64 0, .int .i64 0, .slice none 0 0, .slice none 0 0, .int .i64 0, .int .i64 0, .int .i64 0, .int .i64 0] 38)).alloc (.cells #[.int .i64 f0, .int .i64 f1, .slice A2 n2 c2, .int .i64 f3, .int .i64 f4_0, .int .i64 f4_1, .slice A5 n5 c5, .slice A6 n6 c6, .int .i64 f7, .int .i64 f8, .int .i64 f9, .int .i64 f10] 38))) := Lib.hid (Zr.out.below ((Below.refl _ _).alloc (Nat.le_refl _) _))
  have Zo : Hid (Zx (w.heap.size + 1 + 1) [.int .i64 f0, .int .i64 f1, .slice A2 n2 c2, .int .i64 f3, .int .i64 f4_0, .int .i64 f4_1, .slice A5 n5 c5, .slice A6 n6 c6, .int .i64 f7, .int .i64 f8, .int .i64 f9, .int .i64 f10] (((w.alloc (.cells #[.int .i64 f0, .int .i64 f1, .slice A2 n2 c2, .int .i64 f3, .int .i64 f4_0, .int .i64 f4_1, .slice A5 n5 c5, .slice A6 n6 c6, .int .i64 f7, .int .i64 f8, .int .i64 f9, .int .i64 f10] 38)).alloc (.cells #[.int .i64 0, .int .i64 0, .slice none 0 0, .int .i64 0, .int .i64 0, .int .i64 0, .slice none 0 0, .slice none 0 0, .int .i64 0, .int .i64 0, .int .i64 0, .int .i64 0] 38)).alloc (.cells #[.int .i64 f0, .int .i64 f1, .slice A2 n2 c2, .int .i64 f3, .int .i64 f4_0, .int .i64 f4_1, .slice A5 n5 c5, .slice A6 n6 c6, .int .i64 f7, .int .i64 f8, .int .i64 f9, .int .i64 f10] 38))) := Lib.hid (by have h1 := Zx.new ((w.alloc (.cells #[.int .i64 f0, .int .i64 f1, .slice A2 n2 c2, .int .i64 f3, .int .i64 f4_0, .int .i64 f4_1, .slice A5 n5 c5, .slice A6 n6 c6, .int .i64 f7, .int .i64 f8, .int .i64 f9, .int .i64 f10] 38)).alloc (.cells #[.int .i64 0, .int .i64 0, .slice none 0 0, .int .i64 0, .int .i64 0, .int .i64 0, .slice none 0 0, .slice none 0 0, .int .i64 0, .int .i64 0, .int .i64 0, .int .i64 0] 38)) #[.int .i64 f0, .int .i64 f1, .slice A2 n2 c2, .int .i64 f3, .int .i64 f4_0, .int .i64 f4_1, .slice A5 n5 c5, .slice A6 n6 c6, .int .i64 f7, .int .i64 f8, .int .i64 f9, .int .i64 f10] 38; (try simp only [World.size_alloc, World.size_setCell] at h1); exact h1)
  replace HB : Hid (Below w.heap.size w (((w.alloc (.cells #[.int .i64 f0, .int .i64 f1, .slice A2 n2 c2, .int .i64 f3, .int .i64 f4_0, .int .i64 f4_1, .slice A5 n5 c5, .slice A6 n6 c6, .int .i64 f7, .int .i64 f8, .int .i64 f9, .int .i64 f10] 38)).alloc (.cells #[.int .i64 0, .int .i64 0, .slice none 0 0, .int .i64 0, .int .i64 0, .int .i64 0, .slice none 0 0, .slice none 0 0, .int .i64 0, .int .i64 0, .int .i64 0, .int .i64 0] 38)).alloc (.cells #[.int .i64 f0, .int .i64 f1, .slice A2 n2 c2, .int .i64 f3, .int .i64 f4_0, .int .i64 f4_1, .slice A5 n5 c5, .slice A6 n6 c6, .int .i64 f7, .int .i64 f8, .int .i64 f9, .int .i64 f10] 38))) := Lib.hid (HB.out.alloc HB.out.size _)
  go_enter Try.func98, Try.ntmps98
  have GL : Hid (Grow 31 2 (w.heap.size + 1 + 1 + 1) ((((w.alloc (.cells #[.int .i64 f0, .int .i64 f1, .slice A2 n2 c2, .int .i64 f3, .int .i64 f4_0, .int .i64 f4_1, .slice A5 n5 c5, .slice A6 n6 c6, .int .i64 f7, .int .i64 f8, .int .i64 f9, .int .i64 f10] 38)).alloc (.cells #[.int .i64 0, .int .i64 0, .slice none 0 0, .int .i64 0, .int .i64 0, .int .i64 0, .slice none 0 0, .slice none 0 0, .int .i64 0, .int .i64 0, .int .i64 0, .int .i64 0] 38)).alloc (.cells #[.int .i64 f0, .int .i64 f1, .slice A2 n2 c2, .int .i64 f3, .int .i64 f4_0, .int .i64 f4_1, .slice A5 n5 c5, .slice A6 n6 c6, .int .i64 f7, .int .i64 f8, .int .i64 f9, .int .i64 f10] 38)).alloc (.cells #[] 31)) (some ⟨w.heap.size + 1 + 1 + 1, 0, none⟩) 0 0 [] (fun _ => False)) := Lib.hid (by have h1 := Grow.lit9 31 2 (((w.alloc (.cells #[.int .i64 f0, .int .i64 f1, .slice A2 n2 c2, .int .i64 f3, .int .i64 f4_0, .int .i64 f4_1, .slice A5 n5 c5, .slice A6 n6 c6, .int .i64 f7, .int .i64 f8, .int .i64 f9, .int .i64 f10] 38)).alloc (.cells #[.int .i64 0, .int .i64 0, .slice none 0 0, .int .i64 0, .int .i64 0, .int .i64 0, .slice none 0 0, .slice none 0 0, .int .i64 0, .int .i64 0, .int .i64 0, .int .i64 0] 38)).alloc (.cells #[.int .i64 f0, .int .i64 f1, .slice A2 n2 c2, .int .i64 f3, .int .i64 f4_0, .int .i64 f4_1, .slice A5 n5 c5, .slice A6 n6 c6, .int .i64 f7, .int .i64 f8, .int .i64 f9, .int .i64 f10] 38)); (try simp only [World.size_alloc, World.size_setCell] at h1); exact h1)
  have BL : Hid (Below w.heap.size w ((((w.alloc (.cells #[.int .i64 f0, .int .i64 f1, .slice A2 n2 c2, .int .i64 f3, .int .i64 f4_0, .int .i64 f4_1, .slice A5 n5 c5, .slice A6 n6 c6, .int .i64 f7, .int .i64 f8, .int .i64 f9, .int .i64 f10] 38)).alloc (.cells #[.int .i64 0, .int .i64 0, .slice none 0 0, .int .i64 0, .int .i64 0, .int .i64 0, .slice none 0 0, .slice none 0 0, .int .i64 0, .int .i64 0, .int .i64 0, .int .i64 0] 38)).alloc (.cells #[.int .i64 f0, .int .i64 f1, .slice A2 n2 c2, .int .i64 f3, .int .i64 f4_0, .int .i64 f4_1, .slice A5 n5 c5, .slice A6 n6 c6, .int .i64 f7, .int .i64 f8, .int .i64 f9, .int .i64 f10] 38)).alloc (.cells #[] 31))) := Lib.hid (HB.out.alloc HB.out.size _)
  obtain ⟨yl0, yl1, yl2, yl3, yl4, yl5, yl6, yl7, yl8, yl9, yl10, yl11, fyl⟩ := (Zl.out.below ((Below.refl _ _).alloc (Nat.le_refl _) (.cells #[] 31))).d12
  obtain ⟨yr0, yr1, yr2, yr3, yr4, yr5, yr6, yr7, yr8, yr9, yr10, yr11, fyr⟩ := (Zr.out.below ((Below.refl _ _).alloc (Nat.le_refl _) (.cells #[] 31))).d12
  obtain ⟨yo0, yo1, yo2, yo3, yo4, yo5, yo6, yo7, yo8, yo9, yo10, yo11, fyo⟩ := (Zo.out.below ((Below.refl _ _).alloc (Nat.le_refl _) (.cells #[] 31))).d12
  go_wp2_with (first
    | (refine wpList_append_dat _ rfl _ _ 35 rfl 2 (by omega) 31 i0 _ 16 Try.underlying35 hi0 hx0 hy0 rfl hz0 (w.heap.size + 1 + 1 + 1) _ 0 0 [] _ rfl GL.out A2 n2 c2 L2 (fun _ => False) rfl (Src.of_lies (HL2.out.below BL.out) (fun x hx => (HT2.out x hx).width) (fun x hx => Has.flat rfl (HT2.out x hx))) (fun b h => h.elim) (fun a e h => h) (by unfold maxLen; omega) (by omega) (by first | (simp; done) | (simp only [World.size_alloc, World.size_setCell]; omega)) ?_; intro B2 k2 w1 hG hT hA; have hb := Touch.fresh12 hT rfl (by first | (simp; done) | (simp only [World.size_alloc, World.size_setCell]; omega)); clear hT hA; clear GL BL yl0 yl1 yl2 yl3 yl4 yl5 yl6 yl7 yl8 yl9 yl10 yl11 yr0 yr1 yr2 yr3 yr4 yr5 yr6 yr7 yr8 yr9 yr10 yr11 yo0 yo1 yo2 yo3 yo4 yo5 yo6 yo7 yo8 yo9 yo10 yo11 fyl fyr fyo; replace Zl : Hid (Zx (w.heap.size) [.int .i64 f0, .int .i64 f1, .slice A2 n2 c2, .int .i64 f3, .int .i64 f4_0, .int .i64 f4_1, .slice A5 n5 c5, .slice A6 n6 c6, .int .i64 f7, .int .i64 f8, .int .i64 f9, .int .i64 f10] w1) := Lib.hid (Zl.out.below hb); replace Zr : Hid (Zx (w.heap.size + 1) [.int .i64 0, .int .i64 0, .slice none 0 0, .int .i64 0, .int .i64 0, .int .i64 0, .slice none 0 0, .slice none 0 0, .int .i64 0, .int .i64 0, .int .i64 0, .int .i64 0] w1) := Lib.hid (Zr.out.below hb); replace Zo : Hid (Zx (w.heap.size + 1 + 1) [.int .i64 f0, .int .i64 f1, .slice A2 n2 c2, .int .i64 f3, .int .i64 f4_0, .int .i64 f4_1, .slice A5 n5 c5, .slice A6 n6 c6, .int .i64 f7, .int .i64 f8, .int .i64 f9, .int .i64 f10] w1) := Lib.hid (Zo.out.below hb); replace HB : Hid (Below w.heap.size w w1) := Lib.hid (HB.out.trans (hb.mono HB.out.size)); have hsw1 : w.heap.size + 1 + 1 + 1 ≤ w1.heap.size := (by have h1 := hb.size; (try simp only [World.size_alloc, World.size_setCell] at h1); exact h1); have O2 : Hid (Owns w1 (.l L2) [.slice B2 n2 k2] (rng (w.heap.size + 1 + 1 + 1) (w1.heap.size))) := Lib.hid hG.rngO; clear hG hb; obtain ⟨zl0, zl1, zl2, zl3, zl4, zl5, zl6, zl7, zl8, zl9, zl10, zl11, fl⟩ := Zl.out.d12; obtain ⟨zr0, zr1, zr2, zr3, zr4, zr5, zr6, zr7, zr8, zr9, zr10, zr11, fr⟩ := Zr.out.d12; obtain ⟨zo0, zo1, zo2, zo3, zo4, zo5, zo6, zo7, zo8, zo9, zo10, zo11, fo⟩ := Zo.out.d12)
    | fail)
  replace Zl : Hid (Zx (w.heap.size) [.int .i64 f0, .int .i64 f1, .slice A2 n2 c2, .int .i64 f3, .int .i64 f4_0, .int .i64 f4_1, .slice A5 n5 c5, .slice A6 n6 c6, .int .i64 f7, .int .i64 f8, .int .i64 f9, .int .i64 f10] (w1.setCell ⟨w.heap.size + 1 + 1, 2, none⟩ (.slice B2 n2 k2))) := Lib.hid (Zl.out.far (by have h1 := HB.out.size; omega))
  replace Zr : Hid (Zx (w.heap.size + 1) [.int .i64 0, .int .i64 0, .slice none 0 0, .int .i64 0, .int .i64 0, .int .i64 0, .slice none 0 0, .slice none 0 0, .int .i64 0, .int .i64 0, .int .i64 0, .int .i64 0] (w1.setCell ⟨w.heap.size + 1 + 1, 2, none⟩ (.slice B2 n2 k2))) := Lib.hid (Zr.out.far (by have h1 := HB.out.size; omega))
  replace Zo : Hid (Zx (w.heap.size + 1 + 1) [.int .i64 f0, .int .i64 f1, .slice B2 n2 k2, .int .i64 f3, .int .i64 f4_0, .int .i64 f4_1, .slice A5 n5 c5, .slice A6 n6 c6, .int .i64 f7, .int .i64 f8, .int .i64 f9, .int .i64 f10] (w1.setCell ⟨w.heap.size + 1 + 1, 2, none⟩ (.slice B2 n2 k2))) := Lib.hid (Zo.out.put 2 _)
  replace HB : Hid (Below w.heap.size w (w1.setCell ⟨w.heap.size + 1 + 1, 2, none⟩ (.slice B2 n2 k2))) := Lib.hid (HB.out.setCell (p := ⟨w.heap.size + 1 + 1, 2, none⟩) (by show w.heap.size ≤ w.heap.size + 1 + 1; omega) _)
  replace O2 : Hid (Owns (w1.setCell ⟨w.heap.size + 1 + 1, 2, none⟩ (.slice B2 n2 k2)) (.l L2) [.slice B2 n2 k2] (rng (w.heap.size + 1 + 1 + 1) (w1.heap.size))) := Lib.hid (O2.out.touch ((Touch.refl (fun b => b = w.heap.size + 1 + 1) _).setCell rfl _) (fun b hb e => by have h1 := hb.1; have h2 := HB.out.size; omega))
  refine ((l9CopyS L5 A5 n5 c5 _ (HL5.out.below HB.out) HT5.out (by omega)).mono (fun _ _ h => h.fresh)).mono ?_
  rintro e w2 ⟨B5, m9, k5, rfl, hO, hb⟩
  obtain rfl : n5 = m9 := by rw [← hO.lies.count, ← HL5.out.count]
  clear zl0 zl1 zl2 zl3 zl4 zl5 zl6 zl7 zl8 zl9 zl10 zl11 fl
  clear zr0 zr1 zr2 zr3 zr4 zr5 zr6 zr7 zr8 zr9 zr10 zr11 fr
  clear zo0 zo1 zo2 zo3 zo4 zo5 zo6 zo7 zo8 zo9 zo10 zo11 fo
  replace Zl : Hid (Zx (w.heap.size) [.int .i64 f0, .int .i64 f1, .slice A2 n2 c2, .int .i64 f3, .int .i64 f4_0, .int .i64 f4_1, .slice A5 n5 c5, .slice A6 n6 c6, .int .i64 f7, .int .i64 f8, .int .i64 f9, .int .i64 f10] w2) := Lib.hid (Zl.out.below hb)
  replace Zr : Hid (Zx (w.heap.size + 1) [.int .i64 0, .int .i64 0, .slice none 0 0, .int .i64 0, .int .i64 0, .int .i64 0, .slice none 0 0, .slice none 0 0, .int .i64 0, .int .i64 0, .int .i64 0, .int .i64 0] w2) := Lib.hid (Zr.out.below hb)
  replace Zo : Hid (Zx (w.heap.size + 1 + 1) [.int .i64 f0, .int .i64 f1, .slice B2 n2 k2, .int .i64 f3, .int .i64 f4_0, .int .i64 f4_1, .slice A5 n5 c5, .slice A6 n6 c6, .int .i64 f7, .int .i64 f8, .int .i64 f9, .int .i64 f10] w2) := Lib.hid (Zo.out.below hb)
  replace HB : Hid (Below w.heap.size w w2) := Lib.hid (HB.out.trans (hb.mono HB.out.size))
  have hsw2 : w1.heap.size ≤ w2.heap.size := (by have h1 := hb.size; (try simp only [World.size_alloc, World.size_setCell] at h1); exact h1)
  replace O2 : Hid (Owns w2 (.l L2) [.slice B2 n2 k2] (rng (w.heap.size + 1 + 1 + 1) (w1.heap.size))) := Lib.hid (O2.out.below hb)
  have O5 : Hid (Owns w2 (.l L5) [.slice B5 n5 k5] (rng (w1.heap.size) (w2.heap.size))) := Lib.hid (by have h1 := hO; (try simp only [World.size_alloc, World.size_setCell] at h1); exact h1)
  clear hO hb
  obtain ⟨zl0, zl1, zl2, zl3, zl4, zl5, zl6, zl7, zl8, zl9, zl10, zl11, fl⟩ := Zl.out.d12
  obtain ⟨zr0, zr1, zr2, zr3, zr4, zr5, zr6, zr7, zr8, zr9, zr10, zr11, fr⟩ := Zr.out.d12
  obtain ⟨zo0, zo1, zo2, zo3, zo4, zo5, zo6, zo7, zo8, zo9, zo10, zo11, fo⟩ := Zo.out.d12
  replace Zl : Hid (Zx (w.heap.size) [.int .i64 f0, .int .i64 f1, .slice A2 n2 c2, .int .i64 f3, .int .i64 f4_0, .int .i64 f4_1, .slice A5 n5 c5, .slice A6 n6 c6, .int .i64 f7, .int .i64 f8, .int .i64 f9, .int .i64 f10] (w2.setCell ⟨w.heap.size + 1 + 1, 6, none⟩ (.slice B5 n5 k5))) := Lib.hid (Zl.out.far (by have h1 := HB.out.size; omega))
  replace Zr : Hid (Zx (w.heap.size + 1) [.int .i64 0, .int .i64 0, .slice none 0 0, .int .i64 0, .int .i64 0, .int .i64 0, .slice none 0 0, .slice none 0 0, .int .i64 0, .int .i64 0, .int .i64 0, .int .i64 0] (w2.setCell ⟨w.heap.size + 1 + 1, 6, none⟩ (.slice B5 n5 k5))) := Lib.hid (Zr.out.far (by have h1 := HB.out.size; omega))
  replace Zo : Hid (Zx (w.heap.size + 1 + 1) [.int .i64 f0, .int .i64 f1, .slice B2 n2 k2, .int .i64 f3, .int .i64 f4_0, .int .i64 f4_1, .slice B5 n5 k5, .slice A6 n6 c6, .int .i64 f7, .int .i64 f8, .int .i64 f9, .int .i64 f10] (w2.setCell ⟨w.heap.size + 1 + 1, 6, none⟩ (.slice B5 n5 k5))) := Lib.hid (Zo.out.put 6 _)
  replace HB : Hid (Below w.heap.size w (w2.setCell ⟨w.heap.size + 1 + 1, 6, none⟩ (.slice B5 n5 k5))) := Lib.hid (HB.out.setCell (p := ⟨w.heap.size + 1 + 1, 6, none⟩) (by show w.heap.size ≤ w.heap.size + 1 + 1; omega) _)
  replace O2 : Hid (Owns (w2.setCell ⟨w.heap.size + 1 + 1, 6, none⟩ (.slice B5 n5 k5)) (.l L2) [.slice B2 n2 k2] (rng (w.heap.size + 1 + 1 + 1) (w1.heap.size))) := Lib.hid (O2.out.touch ((Touch.refl (fun b => b = w.heap.size + 1 + 1) _).setCell rfl _) (fun b hb e => by have h1 := hb.1; have h2 := HB.out.size; omega))
  replace O5 : Hid (Owns (w2.setCell ⟨w.heap.size + 1 + 1, 6, none⟩ (.slice B5 n5 k5)) (.l L5) [.slice B5 n5 k5] (rng (w1.heap.size) (w2.heap.size))) := Lib.hid (O5.out.touch ((Touch.refl (fun b => b = w.heap.size + 1 + 1) _).setCell rfl _) (fun b hb e => by have h1 := hb.1; have h2 := HB.out.size; omega))
  have GL : Hid (Grow 119 2 (w2.heap.size) ((w2.setCell ⟨w.heap.size + 1 + 1, 6, none⟩ (.slice B5 n5 k5)).alloc (.cells #[] 119)) (some ⟨w2.heap.size, 0, none⟩) 0 0 [] (fun _ => False)) := Lib.hid (by have h1 := Grow.lit9 119 2 (w2.setCell ⟨w.heap.size + 1 + 1, 6, none⟩ (.slice B5 n5 k5)); (try simp only [World.size_alloc, World.size_setCell] at h1); exact h1)
  have BL : Hid (Below w.heap.size w ((w2.setCell ⟨w.heap.size + 1 + 1, 6, none⟩ (.slice B5 n5 k5)).alloc (.cells #[] 119))) := Lib.hid (HB.out.alloc HB.out.size _)
  obtain ⟨yl0, yl1, yl2, yl3, yl4, yl5, yl6, yl7, yl8, yl9, yl10, yl11, fyl⟩ := (Zl.out.below ((Below.refl _ _).alloc (Nat.le_refl _) (.cells #[] 119))).d12
  obtain ⟨yr0, yr1, yr2, yr3, yr4, yr5, yr6, yr7, yr8, yr9, yr10, yr11, fyr⟩ := (Zr.out.below ((Below.refl _ _).alloc (Nat.le_refl _) (.cells #[] 119))).d12
  obtain ⟨yo0, yo1, yo2, yo3, yo4, yo5, yo6, yo7, yo8, yo9, yo10, yo11, fyo⟩ := (Zo.out.below ((Below.refl _ _).alloc (Nat.le_refl _) (.cells #[] 119))).d12
  go_wp2_with (first
    | (refine wpList_append_dat _ rfl _ _ 36 rfl 2 (by omega) 119 i1 _ 16 Try.underlying36 hi1 hx1 hy1 rfl hz1 (w2.heap.size) _ 0 0 [] _ rfl GL.out A6 n6 c6 L6 (fun _ => False) rfl (Src.of_lies (HL6.out.below BL.out) (fun x hx => (HT6.out x hx).width) (fun x hx => Has.flat rfl (HT6.out x hx))) (fun b h => h.elim) (fun a e h => h) (by unfold maxLen; omega) (by omega) (by first | (simp; done) | (simp only [World.size_alloc, World.size_setCell]; omega)) ?_; intro B6 k6 w3 hG hT hA; have hb := Touch.fresh12 hT rfl (by first | (simp; done) | (simp only [World.size_alloc, World.size_setCell]; omega)); clear hT hA; clear zl0 zl1 zl2 zl3 zl4 zl5 zl6 zl7 zl8 zl9 zl10 zl11 fl; clear zr0 zr1 zr2 zr3 zr4 zr5 zr6 zr7 zr8 zr9 zr10 zr11 fr; clear zo0 zo1 zo2 zo3 zo4 zo5 zo6 zo7 zo8 zo9 zo10 zo11 fo; clear GL BL yl0 yl1 yl2 yl3 yl4 yl5 yl6 yl7 yl8 yl9 yl10 yl11 yr0 yr1 yr2 yr3 yr4 yr5 yr6 yr7 yr8 yr9 yr10 yr11 yo0 yo1 yo2 yo3 yo4 yo5 yo6 yo7 yo8 yo9 yo10 yo11 fyl fyr fyo; replace Zl : Hid (Zx (w.heap.size) [.int .i64 f0, .int .i64 f1, .slice A2 n2 c2, .int .i64 f3, .int .i64 f4_0, .int .i64 f4_1, .slice A5 n5 c5, .slice A6 n6 c6, .int .i64 f7, .int .i64 f8, .int .i64 f9, .int .i64 f10] w3) := Lib.hid (Zl.out.below hb); replace Zr : Hid (Zx (w.heap.size + 1) [.int .i64 0, .int .i64 0, .slice none 0 0, .int .i64 0, .int .i64 0, .int .i64 0, .slice none 0 0, .slice none 0 0, .int .i64 0, .int .i64 0, .int .i64 0, .int .i64 0] w3) := Lib.hid (Zr.out.below hb); replace Zo : Hid (Zx (w.heap.size + 1 + 1) [.int .i64 f0, .int .i64 f1, .slice B2 n2 k2, .int .i64 f3, .int .i64 f4_0, .int .i64 f4_1, .slice B5 n5 k5, .slice A6 n6 c6, .int .i64 f7, .int .i64 f8, .int .i64 f9, .int .i64 f10] w3) := Lib.hid (Zo.out.below hb); replace HB : Hid (Below w.heap.size w w3) := Lib.hid (HB.out.trans (hb.mono HB.out.size)); have hsw3 : w2.heap.size ≤ w3.heap.size := (by have h1 := hb.size; (try simp only [World.size_alloc, World.size_setCell] at h1); exact h1); replace O2 : Hid (Owns w3 (.l L2) [.slice B2 n2 k2] (rng (w.heap.size + 1 + 1 + 1) (w1.heap.size))) := Lib.hid (O2.out.below hb); replace O5 : Hid (Owns w3 (.l L5) [.slice B5 n5 k5] (rng (w1.heap.size) (w2.heap.size))) := Lib.hid (O5.out.below hb); have O6 : Hid (Owns w3 (.l L6) [.slice B6 n6 k6] (rng (w2.heap.size) (w3.heap.size))) := Lib.hid hG.rngO; clear hG hb; obtain ⟨zl0, zl1, zl2, zl3, zl4, zl5, zl6, zl7, zl8, zl9, zl10, zl11, fl⟩ := Zl.out.d12; obtain ⟨zr0, zr1, zr2, zr3, zr4, zr5, zr6, zr7, zr8, zr9, zr10, zr11, fr⟩ := Zr.out.d12; obtain ⟨zo0, zo1, zo2, zo3, zo4, zo5, zo6, zo7, zo8, zo9, zo10, zo11, fo⟩ := Zo.out.d12)
    | fail)
  refine bodyPost_ret (v := .agg #[.int .i64 f0, .int .i64 f1, .slice B2 n2 k2, .int .i64 f3, .int .i64 f4_0, .int .i64 f4_1, .slice B5 n5 k5, .slice B6 n6 k6, .int .i64 f7, .int .i64 f8, .int .i64 f9, .int .i64 f10]) ?hres rfl ?hpost
  case hres => exact results_box rfl _ _ (w.heap.size + 1) [.int .i64 f0, .int .i64 f1, .slice B2 n2 k2, .int .i64 f3, .int .i64 f4_0, .int .i64 f4_1, .slice B5 n5 k5, .slice B6 n6 k6, .int .i64 f7, .int .i64 f8, .int .i64 f9, .int .i64 f10] _ rfl (((((((((((((Zr.out.1.far (by omega) _).put 0 _).put 1 _).put 2 _).put 3 _).put 4 _).put 5 _).put 6 _).put 7 _).put 8 _).put 9 _).put 10 _).put 11 _) Try.underlying38 rfl (by kernel_rfl)
  case hpost =>
    have l1 : w.heap.size ≤ w.heap.size + 1 := by omega
    have l2 : w.heap.size ≤ w.heap.size + 1 + 1 := by omega
    suffices h9 : ∀ w' : World, Touch (fun b => b = w.heap.size + 1 ∨ b = w.heap.size + 1 + 1) w3 w' → Below w.heap.size w w' → CopEntity f0 f1 L2 n2 f3 f4_0 f4_1 L5 n5 L6 n6 f7 f8 f9 f10 w (.returned (.agg #[.int .i64 f0, .int .i64 f1, .slice B2 n2 k2, .int .i64 f3, .int .i64 f4_0, .int .i64 f4_1, .slice B5 n5 k5, .slice B6 n6 k6, .int .i64 f7, .int .i64 f8, .int .i64 f9, .int .i64 f10])) w' from h9 _ ((((((((((((((Touch.refl (fun b => b = w.heap.size + 1 ∨ b = w.heap.size + 1 + 1) w3).setCell (Or.inr rfl) _).setCell (Or.inl rfl) _).setCell (Or.inl rfl) _).setCell (Or.inl rfl) _).setCell (Or.inl rfl) _).setCell (Or.inl rfl) _).setCell (Or.inl rfl) _).setCell (Or.inl rfl) _).setCell (Or.inl rfl) _).setCell (Or.inl rfl) _).setCell (Or.inl rfl) _).setCell (Or.inl rfl) _).setCell (Or.inl rfl) _) (((((((((((((HB.out.setCell l2 _).setCell l1 _).setCell l1 _).setCell l1 _).setCell l1 _).setCell l1 _).setCell l1 _).setCell l1 _).setCell l1 _).setCell l1 _).setCell l1 _).setCell l1 _).setCell l1 _)
    intro w' hT9 hB9
    have hs9 := hT9.size
    exact ⟨B2, k2, B5, k5, B6, k6, rfl, ownEntity ((O2.out.touch hT9 (fun b hb hS => by have h1 := hb.1; rcases hS with h | h <;> omega)).mono (B' := rng (w.heap.size) (w1.heap.size)) (fun b hb => ⟨by have h1 := hb.1; omega, by have h1 := hb.2; omega⟩)) ((O5.out.touch hT9 (fun b hb hS => by have h1 := hb.1; rcases hS with h | h <;> omega)).mono (B' := rng (w1.heap.size) (w2.heap.size)) (fun b hb => ⟨by have h1 := hb.1; omega, by have h1 := hb.2; omega⟩)) ((O6.out.touch hT9 (fun b hb hS => by have h1 := hb.1; rcases hS with h | h <;> omega)).mono (B' := rng (w2.heap.size) (w'.heap.size)) (fun b hb => ⟨by have h1 := hb.1; omega, by have h1 := hb.2; omega⟩)) (by omega) (by omega) (by omega), hB9⟩
end Go.Proofs.Ytmeacgpebpfpbaa
end
section
namespace Go.Proofs.Ytmeacgpebpfpbaa
open Go.RowKit
set_option linter.unusedVariables false
set_option linter.unusedSimpArgs false
set_option maxRecDepth 100000 in
set_option maxHeartbeats 16000000 in
theorem specCopV (f0 : Int) (L1 : List Dat) (A1 : Option Addr) (n1 c1 : Nat) (L2 : List Dat) (A2 : Option Addr) (n2 c2 : Nat) (L3 : List Dat) (A3 : Option Addr) (n3 c3 : Nat) (L4 : List Dat) (A4 : Option Addr) (n4 c4 : Nat) (w : World) (hl1 : Lies w (.l L1) [.slice A1 n1 c1]) (ht1 : ∀ x ∈ L1, Has tyEntity x) (hq1 : (Dat.l L1).bulk ≤ 549755813888) (hl2 : Lies w (.l L2) [.slice A2 n2 c2]) (ht2 : ∀ x ∈ L2, Has tySent x) (hq2 : (Dat.l L2).bulk ≤ 549755813888) (hl3 : Lies w (.l L3) [.slice A3 n3 c3]) (ht3 : ∀ x ∈ L3, Has tyLink x) (hq3 : (Dat.l L3).bulk ≤ 549755813888) (hl4 : Lies w (.l L4) [.slice A4 n4 c4]) (ht4 : ∀ x ∈ L4, Has tyOutgoing x) (hq4 : (Dat.l L4).bulk ≤ 549755813888) :
    Calls Try.prog 97 #[.agg #[.int .i64 f0, .slice A1 n1 c1, .slice A2 n2 c2, .slice A3 n3 c3, .slice A4 n4 c4]] w (GivesVt f0 L1 n1 L2 n2 L3 n3 L4 n4 w) := by
  obtain ⟨i1, hj1, hx1, hy1, hz1⟩ := info_parts infoEntity
  obtain ⟨i3, hj3, hx3, hy3, hz3⟩ := info_parts infoLink
  obtain ⟨i4, hj4, hx4, hy4, hz4⟩ := info_parts infoOutgoing
  have HL1 := Lib.hid hl1
  have HT1 := Lib.hid ht1
  have HC1 := Lib.hid hl1.count
  have hn1 : n1 ≤ 549755813888 := by have h1 := HC1.out; simp only [Dat.bulk] at hq1; omega
  have HN1 : Hid (∀ x ∈ L1, x.bulk ≤ 549755813888) := Lib.hid (fun x hx => by have h1 := bulk_mem hx; simp only [Dat.bulk] at hq1; omega)
  have HL2 := Lib.hid hl2
  have HT2 := Lib.hid ht2
  have HC2 := Lib.hid hl2.count
  have hn2 : n2 ≤ 549755813888 := by have h1 := HC2.out; simp only [Dat.bulk] at hq2; omega
  have HN2 : Hid (∀ x ∈ L2, x.bulk ≤ 549755813888) := Lib.hid (fun x hx => by have h1 := bulk_mem hx; simp only [Dat.bulk] at hq2; omega)
  have HL3 := Lib.hid hl3
  have HT3 := Lib.hid ht3
  have HC3 := Lib.hid hl3.count
  have hn3 : n3 ≤ 549755813888 := by have h1 := HC3.out; simp only [Dat.bulk] at hq3; omega
  have HN3 : Hid (∀ x ∈ L3, x.bulk ≤ 549755813888) := Lib.hid (fun x hx => by have h1 := bulk_mem hx; simp only [Dat.bulk] at hq3; omega)
  have HL4 := Lib.hid hl4
  have HT4 := Lib.hid ht4
  have HC4 := Lib.hid hl4.count
  have hn4 : n4 ≤ 549755813888 := by have h1 := HC4.out; simp only [Dat.bulk] at hq4; omega
  have HN4 : Hid (∀ x ∈ L4, x.bulk ≤ 549755813888) := Lib.hid (fun x hx => by have h1 := bulk_mem hx; simp only [Dat.bulk] at hq4; omega)
  clear hl1 ht1 hl2 ht2 hl3 ht3 hl4 ht4
  have X := Lib.hid (Cp0.start w #[.int .i64 f0, .slice A1 n1 c1, .slice A2 n2 c2, .slice A3 n3 c3, .slice A4 n4 c4])
  have XD : Hid (Cp0 w [.int .i64 f0, .slice A1 n1 c1, .slice A2 n2 c2, .slice A3 n3 c3, .slice A4 n4 c4] ((w.alloc (.cells #[.int .i64 f0, .slice A1 n1 c1, .slice A2 n2 c2, .slice A3 n3 c3, .slice A4 n4 c4] 29)).alloc (.cells #[.int .i64 0, .slice none 0 0, .slice none 0 0, .slice none 0 0, .slice none 0 0] 29)).drew) := Lib.hid (X.out.below ((Below.refl _ _).drew))
  have XA : Hid (CpB w (w.heap.size + 1 + 1) [.int .i64 f0, .slice A1 n1 c1, .slice A2 n2 c2, .slice A3 n3 c3, .slice A4 n4 c4] [.int .i64 0, .slice none 0 0, .slice none 0 0, .slice none 0 0, .slice none 0 0] (((w.alloc (.cells #[.int .i64 f0, .slice A1 n1 c1, .slice A2 n2 c2, .slice A3 n3 c3, .slice A4 n4 c4] 29)).alloc (.cells #[.int .i64 0, .slice none 0 0, .slice none 0 0, .slice none 0 0, .slice none 0 0] 29)).drew.alloc (.cells #[.int .i64 0, .slice none 0 0, .slice none 0 0, .slice none 0 0, .slice none 0 0] 29))) := Lib.hid (by have h1 := CpB.new XD.out #[.int .i64 0, .slice none 0 0, .slice none 0 0, .slice none 0 0, .slice none 0 0] 29; (try simp only [World.size_alloc, World.size_drew] at h1); exact h1)
  obtain ⟨z0, z1, z2, z3, z4, fz⟩ := X.out.2.1.d5
  obtain ⟨y0, y1, y2, y3, y4, fy⟩ := XA.out.1.2.1.d5
  have XB : Hid (CpB w (w.heap.size + 1 + 1) [.int .i64 f0, .slice A1 n1 c1, .slice A2 n2 c2, .slice A3 n3 c3, .slice A4 n4 c4] [.int .i64 0, .slice none 0 0, .slice none 0 0, .slice none 0 0, .slice none 0 0] (((w.alloc (.cells #[.int .i64 f0, .slice A1 n1 c1, .slice A2 n2 c2, .slice A3 n3 c3, .slice A4 n4 c4] 29)).alloc (.cells #[.int .i64 0, .slice none 0 0, .slice none 0 0, .slice none 0 0, .slice none 0 0] 29)).alloc (.cells #[.int .i64 0, .slice none 0 0, .slice none 0 0, .slice none 0 0, .slice none 0 0] 29)).drew) := Lib.hid (by have h1 := (CpB.new X.out #[.int .i64 0, .slice none 0 0, .slice none 0 0, .slice none 0 0, .slice none 0 0] 29).below (Below.refl _ _).drew; (try simp only [World.size_alloc, World.size_drew] at h1); exact h1)
  have HLd := Lib.hid (HL2.out.below XD.out.1)
  have HLa := Lib.hid (HL2.out.below XA.out.1.1)
  have HLb := Lib.hid (HL2.out.below XB.out.1.1)
  obtain ⟨yb0, yb1, yb2, yb3, yb4, fyb⟩ := XB.out.1.2.1.d5
  go_enter Try.func97, Try.ntmps97
  go_upto_region 1 with (fail)
  go_cut [3] from 7 to 12 (fun s3 wx => ∃ (o : Nat) (B2 : Option Addr) (k2 : Nat), s3 = .pointer (some ⟨o, 0, none⟩) ∧ CpB w o [.int .i64 f0, .slice A1 n1 c1, .slice A2 n2 c2, .slice A3 n3 c3, .slice A4 n4 c4] [.int .i64 f0, .slice none 0 0, .slice B2 n2 k2, .slice none 0 0, .slice none 0 0] wx ∧ VatX (fun b => w.heap.size + 1 + 1 ≤ b ∧ b ≠ o) wx [] none 0 0 L2 B2 n2 k2 [] none 0 0 [] none 0 0)
  case first =>
    go_region_law (first
      | (go_simp; go_at_call 153; (with_reducible refine (l9CopyS L2 A2 n2 c2 _ (by first | exact HLd.out | exact HLa.out | exact HLb.out) HT2.out (by omega)).mono ?_); rintro e w3 ⟨B2, m9, k2, rfl, hO, hb⟩; (obtain rfl : n2 = m9 := by rw [← hO.lies.count, ← HC2.out]); (have HO := Lib.hid hO); (have hs3 := hb.size); (try simp only [World.size_alloc, World.size_drew] at hs3); (first | (have X3 := Lib.hid (CpB.below XA.out hb); (obtain ⟨q0, q1, q2, q3, q4, fq⟩ := X3.out.2.1.d5); (obtain ⟨p0, p1, p2, p3, p4, fp⟩ := X3.out.1.2.1.d5)) | (have X3 := Lib.hid (CpB.below XB.out hb); (obtain ⟨q0, q1, q2, q3, q4, fq⟩ := X3.out.2.1.d5); (obtain ⟨p0, p1, p2, p3, p4, fp⟩ := X3.out.1.2.1.d5)) | (have X3 := Lib.hid (Cp0.below XD.out hb); (have F3 := fun o => (X3.out.below ((Below.refl _ _).alloc (Nat.le_refl _) o)).2.1.d5.1); (obtain ⟨p0, p1, p2, p3, p4, fp⟩ := X3.out.2.1.d5))); clear hO hb))
    all_goals (
      go_wp2_with fail
      go_meet
      first
      | exact ⟨_, B2, k2, rfl, CpB.new X3.out #[.int .i64 f0, .slice none 0 0, .slice B2 n2 k2, .slice none 0 0, .slice none 0 0] 29, Hold.vat (HO.out.below ((Below.refl _ _).alloc (Nat.le_refl _) _)) (fun b hb => by have h1 := hb.1; have h2 := hb.2; simp only [World.size_alloc, World.size_drew] at h1; exact ⟨h1, by omega⟩)⟩
      | exact ⟨_, B2, k2, rfl, (((((X3.out.put 0 _).put 1 _).put 2 _).put 3 _).put 4 _), Hold.vat (HO.out.touch (S := fun b => b = w.heap.size + 1 + 1) ((((((Touch.refl (fun b => b = w.heap.size + 1 + 1) w3).setCell rfl _).setCell rfl _).setCell rfl _).setCell rfl _).setCell rfl _) (fun b hb e => by have h1 := hb.1; simp only [World.size_alloc, World.size_drew] at h1; omega)) (fun b hb => by have h1 := hb.1; simp only [World.size_alloc, World.size_drew] at h1; exact ⟨by omega, by omega⟩)⟩)
  case rest =>
    obtain ⟨o, B2, k2, rfl, hX, hV⟩ := hcut
    clear X XD XA XB HLd HLa HLb z0 z1 z2 z3 z4 fz y0 y1 y2 y3 y4 fy yb0 yb1 yb2 yb3 yb4 fyb
    have X := Lib.hid hX
    have VX := Lib.hid hV
    clear hX hV
    go_wp2_with fail
    go_loopw [4] (fun iv wr => ∃ (i : Nat) (A' : Option Addr) (c' : Nat), i ≤ n1 ∧ iv = .int .i64 i ∧ CpB w o [.int .i64 f0, .slice A1 n1 c1, .slice A2 n2 c2, .slice A3 n3 c3, .slice A4 n4 c4] [.int .i64 f0, .slice A' i c', .slice B2 n2 k2, .slice none 0 0, .slice none 0 0] wr ∧ VatX (fun b => w.heap.size + 1 + 1 ≤ b ∧ b ≠ o) wr (L1.take i) A' i c' L2 B2 n2 k2 [] none 0 0 [] none 0 0) (fun iv _ => n1 - (intOf iv).toNat)
    case atStart => exact ⟨0, none, 0, Nat.zero_le _, rfl, X.out, VX.out⟩
    case round =>
      obtain ⟨i, A', c', hin, rfl, hX, hV⟩ := hrel
      clear X VX
      have X := Lib.hid hX
      have VX := Lib.hid hV
      clear hX hV
      by_cases hlt : i < n1
      · obtain ⟨b, off, d, xs, rfl, hbw, hzi, hlie, hlen, hcell⟩ := HL1.out.elem (fun x hx => (HT1.out x hx).width) hlt
        have hdbig := HN1.out d (List.mem_of_getElem? hzi)
        obtain ⟨g0, g1, M2, D2, m2, j2, g3, g4_0, g4_1, M5, D5, m5, j5, M6, D6, m6, j6, g7, g8, g9, g10, rfl, rfl, he2, hf2, -, he5, hf5, -, he6, hf6, -⟩ := invEntity (HT1.out d (List.mem_of_getElem? hzi)) hlie
        have hu2 : (Dat.l M2).bulk ≤ 549755813888 := by have h1 := hdbig; simp only [Dat.bulk, bulkAll] at h1 ⊢; omega
        have hu5 : (Dat.l M5).bulk ≤ 549755813888 := by have h1 := hdbig; simp only [Dat.bulk, bulkAll] at h1 ⊢; omega
        have hu6 : (Dat.l M6).bulk ≤ 549755813888 := by have h1 := hdbig; simp only [Dat.bulk, bulkAll] at h1 ⊢; omega
        have XD : Hid (CpB w o [.int .i64 f0, .slice (some ⟨b, off, none⟩) n1 c1, .slice A2 n2 c2, .slice A3 n3 c3, .slice A4 n4 c4] [.int .i64 f0, .slice A' i c', .slice B2 n2 k2, .slice none 0 0, .slice none 0 0] wr.drew) := Lib.hid (X.out.below (Below.refl _ _).drew)
        have HE2 := Lib.hid (he2.below XD.out.1.1)
        have HF2 := Lib.hid hf2
        have HE5 := Lib.hid (he5.below XD.out.1.1)
        have HF5 := Lib.hid hf5
        have HE6 := Lib.hid (he6.below XD.out.1.1)
        have HF6 := Lib.hid hf6
        have HS : Hid (∀ (w' : World) (oc : List Value), CpB w o [.int .i64 f0, .slice (some ⟨b, off, none⟩) n1 c1, .slice A2 n2 c2, .slice A3 n3 c3, .slice A4 n4 c4] oc w' → (w'.cell? ⟨w.heap.size, 1, none⟩ = some (.slice (some ⟨b, off, none⟩) n1 c1) ∧ w'.cell? ⟨b, off + i * 12, none⟩ = some (.int .i64 g0) ∧ w'.cell? ⟨b, off + i * 12 + 1, none⟩ = some (.int .i64 g1) ∧ w'.cell? ⟨b, off + i * 12 + 2, none⟩ = some (.slice D2 m2 j2) ∧ w'.cell? ⟨b, off + i * 12 + 3, none⟩ = some (.int .i64 g3) ∧ w'.cell? ⟨b, off + i * 12 + 4, none⟩ = some (.int .i64 g4_0) ∧ w'.cell? ⟨b, off + i * 12 + 5, none⟩ = some (.int .i64 g4_1) ∧ w'.cell? ⟨b, off + i * 12 + 6, none⟩ = some (.slice D5 m5 j5) ∧ w'.cell? ⟨b, off + i * 12 + 7, none⟩ = some (.slice D6 m6 j6) ∧ w'.cell? ⟨b, off + i * 12 + 8, none⟩ = some (.int .i64 g7) ∧ w'.cell? ⟨b, off + i * 12 + 9, none⟩ = some (.int .i64 g8) ∧ w'.cell? ⟨b, off + i * 12 + 10, none⟩ = some (.int .i64 g9) ∧ w'.cell? ⟨b, off + i * 12 + 11, none⟩ = some (.int .i64 g10))) := Lib.hid (fun w' oc h => ⟨h.1.2.1.d5.2.1, (h.1.1.cell (p := ⟨b, off + i * 12, none⟩) hbw).trans (hcell 0 _ rfl), (h.1.1.cell (p := ⟨b, off + i * 12 + 1, none⟩) hbw).trans (hcell 1 _ rfl), (h.1.1.cell (p := ⟨b, off + i * 12 + 2, none⟩) hbw).trans (hcell 2 _ rfl), (h.1.1.cell (p := ⟨b, off + i * 12 + 3, none⟩) hbw).trans (hcell 3 _ rfl), (h.1.1.cell (p := ⟨b, off + i * 12 + 4, none⟩) hbw).trans (hcell 4 _ rfl), (h.1.1.cell (p := ⟨b, off + i * 12 + 5, none⟩) hbw).trans (hcell 5 _ rfl), (h.1.1.cell (p := ⟨b, off + i * 12 + 6, none⟩) hbw).trans (hcell 6 _ rfl), (h.1.1.cell (p := ⟨b, off + i * 12 + 7, none⟩) hbw).trans (hcell 7 _ rfl), (h.1.1.cell (p := ⟨b, off + i * 12 + 8, none⟩) hbw).trans (hcell 8 _ rfl), (h.1.1.cell (p := ⟨b, off + i * 12 + 9, none⟩) hbw).trans (hcell 9 _ rfl), (h.1.1.cell (p := ⟨b, off + i * 12 + 10, none⟩) hbw).trans (hcell 10 _ rfl), (h.1.1.cell (p := ⟨b, off + i * 12 + 11, none⟩) hbw).trans (hcell 11 _ rfl)⟩)
        have VXD := Lib.hid (VX.out.below (Below.refl _ _).drew)
        have hlo := X.out.lt
        have hlo2 := X.out.2.2
        have HZ := Lib.hid hzi
        obtain ⟨z0, z1, z2, z3, z4, fz⟩ := X.out.1.2.1.d5
        obtain ⟨y0, y1, y2, y3, y4, fy⟩ := X.out.2.1.d5
        clear hzi hcell hlie hlen hdbig hbw he2 hf2 he5 hf5 he6 hf6
        go_wp2_with fail
        refine wp_region_held_drew (S := (fun w' => w'.cell? ⟨w.heap.size, 1, none⟩ = some (.slice (some ⟨b, off, none⟩) n1 c1) ∧ w'.cell? ⟨b, off + i * 12, none⟩ = some (.int .i64 g0) ∧ w'.cell? ⟨b, off + i * 12 + 1, none⟩ = some (.int .i64 g1) ∧ w'.cell? ⟨b, off + i * 12 + 2, none⟩ = some (.slice D2 m2 j2) ∧ w'.cell? ⟨b, off + i * 12 + 3, none⟩ = some (.int .i64 g3) ∧ w'.cell? ⟨b, off + i * 12 + 4, none⟩ = some (.int .i64 g4_0) ∧ w'.cell? ⟨b, off + i * 12 + 5, none⟩ = some (.int .i64 g4_1) ∧ w'.cell? ⟨b, off + i * 12 + 6, none⟩ = some (.slice D5 m5 j5) ∧ w'.cell? ⟨b, off + i * 12 + 7, none⟩ = some (.slice D6 m6 j6) ∧ w'.cell? ⟨b, off + i * 12 + 8, none⟩ = some (.int .i64 g7) ∧ w'.cell? ⟨b, off + i * 12 + 9, none⟩ = some (.int .i64 g8) ∧ w'.cell? ⟨b, off + i * 12 + 10, none⟩ = some (.int .i64 g9) ∧ w'.cell? ⟨b, off + i * 12 + 11, none⟩ = some (.int .i64 g10))) (by kernel_rfl) ?_ (fun hH0 => ?_)
        · first | exact HS.out _ _ XS.out | exact HS.out _ _ X9.out | exact HS.out _ _ XL.out | exact HS.out _ _ X8.out | exact HS.out _ _ XD.out
        refine wpAnyH_take (i := 0) (v := ?_) rfl (by kernel_rfl) (by kernel_rfl) (by kernel_rfl) (fun _ _ _ h => h) (Or.inl ⟨by rfl, ?_⟩) hH0 ?_
        rotate_left
        · intro w hSw; (try dsimp only at hSw); go_simp; (try with_reducible rfl)
        simp only [Act.put, List.setIfInBounds_toArray, List.set_cons_zero, List.set_cons_succ]
        refine wpAnyH_take (i := 2) (v := ?_) rfl (by kernel_rfl) (by kernel_rfl) (by kernel_rfl) (fun _ _ _ h => h) (Or.inl ⟨by rfl, ?_⟩) hH0 ?_
        rotate_left
        · intro w hSw; (try dsimp only at hSw); go_simp; (try with_reducible rfl)
        simp only [Act.put, List.setIfInBounds_toArray, List.set_cons_zero, List.set_cons_succ]
        refine wpAnyH_take (i := 3) (v := ?_) rfl (by kernel_rfl) (by kernel_rfl) (by kernel_rfl) (fun _ _ _ h => h) (Or.inl ⟨by rfl, ?_⟩) hH0 ?_
        rotate_left
        · intro w hSw; (try dsimp only at hSw); go_simp; (try with_reducible rfl)
        simp only [Act.put, List.setIfInBounds_toArray, List.set_cons_zero, List.set_cons_succ]
        refine wpAnyH_take (i := 4) (v := ?_) rfl (by kernel_rfl) (by kernel_rfl) (by kernel_rfl) (fun _ _ _ h => h) (Or.inl ⟨by rfl, ?_⟩) hH0 ?_
        rotate_left
        · intro w hSw; (try dsimp only at hSw); go_simp; (try with_reducible rfl)
        simp only [Act.put, List.setIfInBounds_toArray, List.set_cons_zero, List.set_cons_succ]
        refine wpAnyH_take (i := 5) (v := ?_) rfl (by kernel_rfl) (by kernel_rfl) (by kernel_rfl) (fun _ _ _ h => h) (Or.inl ⟨by rfl, ?_⟩) hH0 ?_
        rotate_left
        · intro w hSw; (try dsimp only at hSw); go_simp; (try with_reducible rfl)
        simp only [Act.put, List.setIfInBounds_toArray, List.set_cons_zero, List.set_cons_succ]
        refine wpAnyH_take (i := 6) (v := ?_) rfl (by kernel_rfl) (by kernel_rfl) (by kernel_rfl) (fun _ _ _ h => h) (Or.inl ⟨by rfl, ?_⟩) hH0 ?_
        rotate_left
        · intro w hSw; (try dsimp only at hSw); go_simp; (try with_reducible rfl)
        simp only [Act.put, List.setIfInBounds_toArray, List.set_cons_zero, List.set_cons_succ]
        refine wpAnyH_ready (rs := [1, 7]) (by kernel_rfl) (by simp) ?_
        refine AllReadyH.cons rfl (fun K hK => ?_) ?_
        · go_simp
          refine hK.out _ _ ?_ (fun hH1 => ?_)
          · first | exact HS.out _ _ XS.out | exact HS.out _ _ X9.out | exact HS.out _ _ XL.out | exact HS.out _ _ X8.out | exact HS.out _ _ XD.out
          clear hK K hH0
          (try simp only [Act.put, List.setIfInBounds_toArray, List.set_cons_zero, List.set_cons_succ])
          refine wpAnyH_ready (rs := [7]) (by kernel_rfl) (by simp) ?_
          refine AllReadyH.cons rfl (fun K hK => ?_) ?_
          · (go_simp; go_at_call 98; (with_reducible refine (specCopE g0 g1 M2 D2 m2 j2 g3 g4_0 g4_1 M5 D5 m5 j5 M6 D6 m6 j6 g7 g8 g9 g10 _ HE2.out HF2.out hu2 HE5.out HF5.out hu5 HE6.out HF6.out hu6).mono ?_); rintro e w8 ⟨Q2, t2, Q5, t5, Q6, t6, rfl, hO, hb⟩; (have HO := Lib.hid hO); (have X8 := Lib.hid (CpB.below XD.out hb)); (have XL := Lib.hid (CpB.below X8.out ((Below.refl _ _).alloc (Nat.le_refl _) (.cells #[.int .i64 g0, .int .i64 g1, .slice Q2 m2 t2, .int .i64 g3, .int .i64 g4_0, .int .i64 g4_1, .slice Q5 m5 t5, .slice Q6 m6 t6, .int .i64 g7, .int .i64 g8, .int .i64 g9, .int .i64 g10] 38)))); (obtain ⟨Bg, hg, hgB, hgA, hbk⟩ := VXD.out.app1 (hb.alloc hb.size (.cells #[.int .i64 g0, .int .i64 g1, .slice Q2 m2 t2, .int .i64 g3, .int .i64 g4_0, .int .i64 g4_1, .slice Q5 m5 t5, .slice Q6 m6 t6, .int .i64 g7, .int .i64 g8, .int .i64 g9, .int .i64 g10] 38))); (have HG := Lib.hid hg); (have HGB := Lib.hid hgB); (have HGA := Lib.hid hgA); (have HBK := Lib.hid hbk); (have a1 := X8.out.2.1.d5.2.1); (have F8 := fun o9 => (X8.out.below ((Below.refl _ _).alloc (Nat.le_refl _) o9)).2.1.d5.2.1); clear hO hb hg hgB hgA hbk; (try (go_wp2_with fail)))
            refine hK.out _ _ ?_ (fun hH2 => ?_)
            · first | exact HS.out _ _ XS.out | exact HS.out _ _ X9.out | exact HS.out _ _ XL.out | exact HS.out _ _ X8.out | exact HS.out _ _ XD.out
            clear hK K hH1
            (try simp only [Act.put, List.setIfInBounds_toArray, List.set_cons_zero, List.set_cons_succ])
            refine wpAnyH_ready (rs := [8]) (by kernel_rfl) (by simp) ?_
            refine AllReadyH.cons rfl (fun K hK => ?_) ?_
            · go_simp
              refine hK.out _ _ ?_ (fun hH3 => ?_)
              · first | exact HS.out _ _ XS.out | exact HS.out _ _ X9.out | exact HS.out _ _ XL.out | exact HS.out _ _ X8.out | exact HS.out _ _ XD.out
              clear hK K hH2
              (try simp only [Act.put, List.setIfInBounds_toArray, List.set_cons_zero, List.set_cons_succ])
              refine wpAnyH_ready (rs := [9]) (by kernel_rfl) (by simp) ?_
              refine AllReadyH.cons rfl (fun K hK => ?_) ?_
              · (refine step_append_dat _ rfl _ _ 24 rfl 12 (by omega) 38 i1 _ 144 Try.underlying24 hj1 hx1 hy1 rfl hz1 0 A' i c' (L1.take i) Bg rfl HG.out (some ⟨w8.heap.size, 0, none⟩) 1 1 [.r [.i g0, .i g1, .l M2, .i g3, .r [.i g4_0, .i g4_1], .l M5, .l M6, .i g7, .i g8, .i g9, .i g10]] (rng wr.drew.heap.size w8.heap.size) rfl (Src.lit rfl HO.out rfl (fun b hb => hb.2)) (fun b hb hb2 => by have h1 := (HGB.out b hb).2; have h2 := hb2.1; omega) (fun a e hb2 => by have h1 := (HGA.out a e).2; have h2 := hb2.1; omega) (by unfold maxLen; omega) (by omega) (Nat.zero_le _) ?_; intro A9 c9 w9 hG9 hT9 hA9; (have VX9 := Lib.hid (HBK.out w9 A9 _ c9 _ _ hG9 hT9 hA9 (fun b hb => hb.1))); (have X9 := Lib.hid (CpB.touch XL.out hT9 (fun b ⟨a, e, hb⟩ => by rw [hb]; exact (HGA.out a e).1))); (have XS := Lib.hid (CpB.put X9.out 1 (.slice A9 (i + 1) c9))); clear hG9 hT9 hA9; (obtain ⟨v0, v1, v2, v3, v4, fv⟩ := X9.out.2.1.d5))
                refine hK.out _ _ ?_ (fun hH4 => ?_)
                · first | exact HS.out _ _ XS.out | exact HS.out _ _ X9.out | exact HS.out _ _ XL.out | exact HS.out _ _ X8.out | exact HS.out _ _ XD.out
                clear hK K hH3
                (try simp only [Act.put, List.setIfInBounds_toArray, List.set_cons_zero, List.set_cons_succ])
                refine wpAnyH_take (i := 10) (v := ?_) rfl (by kernel_rfl) (by kernel_rfl) (by kernel_rfl) (fun _ _ _ h => h) (Or.inl ⟨by rfl, ?_⟩) hH4 ?_
                rotate_left
                · intro w hSw; (try dsimp only at hSw); go_simp; (try with_reducible rfl)
                simp only [Act.put, List.setIfInBounds_toArray, List.set_cons_zero, List.set_cons_succ]
                refine wpAnyH_ready (rs := [11]) (by kernel_rfl) (by simp) ?_
                refine AllReadyH.cons rfl (fun K hK => ?_) ?_
                · go_simp
                  refine hK.out _ _ ?_ (fun hH5 => ?_)
                  · first | exact HS.out _ _ XS.out | exact HS.out _ _ X9.out | exact HS.out _ _ XL.out | exact HS.out _ _ X8.out | exact HS.out _ _ XD.out
                  clear hK K hH4
                  (try simp only [Act.put, List.setIfInBounds_toArray, List.set_cons_zero, List.set_cons_succ])
                  refine wpAnyH_done (by kernel_rfl) ?_ _
                  go_wp2_with fail
                  go_roundw
                  case rel => exact ⟨i + 1, A9, c9, by omega, by go_num, X9.out.put 1 _, by rw [List.take_add_one, HZ.out]; exact ((VX9.out.mono (fun b hb => hb.elim id (fun h => ⟨by simp only [World.size_drew] at h; omega, by simp only [World.size_drew] at h; omega⟩))).touch (S := fun b => b = o) ((Touch.refl (fun b => b = o) w9).setCell (p := ⟨o, 1, none⟩) rfl _) (fun b hb e => hb.2 e))⟩
                  case measure => (simp [intOf]; omega)
                exact AllReadyH.nil
              exact AllReadyH.nil
            exact AllReadyH.nil
          exact AllReadyH.nil
        refine AllReadyH.cons rfl (fun K hK => ?_) ?_
        · (go_simp; go_at_call 98; (with_reducible refine (specCopE g0 g1 M2 D2 m2 j2 g3 g4_0 g4_1 M5 D5 m5 j5 M6 D6 m6 j6 g7 g8 g9 g10 _ HE2.out HF2.out hu2 HE5.out HF5.out hu5 HE6.out HF6.out hu6).mono ?_); rintro e w8 ⟨Q2, t2, Q5, t5, Q6, t6, rfl, hO, hb⟩; (have HO := Lib.hid hO); (have X8 := Lib.hid (CpB.below XD.out hb)); (have XL := Lib.hid (CpB.below X8.out ((Below.refl _ _).alloc (Nat.le_refl _) (.cells #[.int .i64 g0, .int .i64 g1, .slice Q2 m2 t2, .int .i64 g3, .int .i64 g4_0, .int .i64 g4_1, .slice Q5 m5 t5, .slice Q6 m6 t6, .int .i64 g7, .int .i64 g8, .int .i64 g9, .int .i64 g10] 38)))); (obtain ⟨Bg, hg, hgB, hgA, hbk⟩ := VXD.out.app1 (hb.alloc hb.size (.cells #[.int .i64 g0, .int .i64 g1, .slice Q2 m2 t2, .int .i64 g3, .int .i64 g4_0, .int .i64 g4_1, .slice Q5 m5 t5, .slice Q6 m6 t6, .int .i64 g7, .int .i64 g8, .int .i64 g9, .int .i64 g10] 38))); (have HG := Lib.hid hg); (have HGB := Lib.hid hgB); (have HGA := Lib.hid hgA); (have HBK := Lib.hid hbk); (have a1 := X8.out.2.1.d5.2.1); (have F8 := fun o9 => (X8.out.below ((Below.refl _ _).alloc (Nat.le_refl _) o9)).2.1.d5.2.1); clear hO hb hg hgB hgA hbk; (try (go_wp2_with fail)))
          refine hK.out _ _ ?_ (fun hH6 => ?_)
          · first | exact HS.out _ _ XS.out | exact HS.out _ _ X9.out | exact HS.out _ _ XL.out | exact HS.out _ _ X8.out | exact HS.out _ _ XD.out
          clear hK K hH0
          (try simp only [Act.put, List.setIfInBounds_toArray, List.set_cons_zero, List.set_cons_succ])
          refine wpAnyH_ready (rs := [1, 8]) (by kernel_rfl) (by simp) ?_
          refine AllReadyH.cons rfl (fun K hK => ?_) ?_
          · go_simp
            refine hK.out _ _ ?_ (fun hH7 => ?_)
            · first | exact HS.out _ _ XS.out | exact HS.out _ _ X9.out | exact HS.out _ _ XL.out | exact HS.out _ _ X8.out | exact HS.out _ _ XD.out
            clear hK K hH6
            (try simp only [Act.put, List.setIfInBounds_toArray, List.set_cons_zero, List.set_cons_succ])
            refine wpAnyH_ready (rs := [8]) (by kernel_rfl) (by simp) ?_
            refine AllReadyH.cons rfl (fun K hK => ?_) ?_
            · go_simp
              refine hK.out _ _ ?_ (fun hH8 => ?_)
              · first | exact HS.out _ _ XS.out | exact HS.out _ _ X9.out | exact HS.out _ _ XL.out | exact HS.out _ _ X8.out | exact HS.out _ _ XD.out
              clear hK K hH7
              (try simp only [Act.put, List.setIfInBounds_toArray, List.set_cons_zero, List.set_cons_succ])
              refine wpAnyH_ready (rs := [9]) (by kernel_rfl) (by simp) ?_
              refine AllReadyH.cons rfl (fun K hK => ?_) ?_
              · (refine step_append_dat _ rfl _ _ 24 rfl 12 (by omega) 38 i1 _ 144 Try.underlying24 hj1 hx1 hy1 rfl hz1 0 A' i c' (L1.take i) Bg rfl HG.out (some ⟨w8.heap.size, 0, none⟩) 1 1 [.r [.i g0, .i g1, .l M2, .i g3, .r [.i g4_0, .i g4_1], .l M5, .l M6, .i g7, .i g8, .i g9, .i g10]] (rng wr.drew.heap.size w8.heap.size) rfl (Src.lit rfl HO.out rfl (fun b hb => hb.2)) (fun b hb hb2 => by have h1 := (HGB.out b hb).2; have h2 := hb2.1; omega) (fun a e hb2 => by have h1 := (HGA.out a e).2; have h2 := hb2.1; omega) (by unfold maxLen; omega) (by omega) (Nat.zero_le _) ?_; intro A9 c9 w9 hG9 hT9 hA9; (have VX9 := Lib.hid (HBK.out w9 A9 _ c9 _ _ hG9 hT9 hA9 (fun b hb => hb.1))); (have X9 := Lib.hid (CpB.touch XL.out hT9 (fun b ⟨a, e, hb⟩ => by rw [hb]; exact (HGA.out a e).1))); (have XS := Lib.hid (CpB.put X9.out 1 (.slice A9 (i + 1) c9))); clear hG9 hT9 hA9; (obtain ⟨v0, v1, v2, v3, v4, fv⟩ := X9.out.2.1.d5))
                refine hK.out _ _ ?_ (fun hH9 => ?_)
                · first | exact HS.out _ _ XS.out | exact HS.out _ _ X9.out | exact HS.out _ _ XL.out | exact HS.out _ _ X8.out | exact HS.out _ _ XD.out
                clear hK K hH8
                (try simp only [Act.put, List.setIfInBounds_toArray, List.set_cons_zero, List.set_cons_succ])
                refine wpAnyH_take (i := 10) (v := ?_) rfl (by kernel_rfl) (by kernel_rfl) (by kernel_rfl) (fun _ _ _ h => h) (Or.inl ⟨by rfl, ?_⟩) hH9 ?_
                rotate_left
                · intro w hSw; (try dsimp only at hSw); go_simp; (try with_reducible rfl)
                simp only [Act.put, List.setIfInBounds_toArray, List.set_cons_zero, List.set_cons_succ]
                refine wpAnyH_ready (rs := [11]) (by kernel_rfl) (by simp) ?_
                refine AllReadyH.cons rfl (fun K hK => ?_) ?_
                · go_simp
                  refine hK.out _ _ ?_ (fun hH10 => ?_)
                  · first | exact HS.out _ _ XS.out | exact HS.out _ _ X9.out | exact HS.out _ _ XL.out | exact HS.out _ _ X8.out | exact HS.out _ _ XD.out
                  clear hK K hH9
                  (try simp only [Act.put, List.setIfInBounds_toArray, List.set_cons_zero, List.set_cons_succ])
                  refine wpAnyH_done (by kernel_rfl) ?_ _
                  go_wp2_with fail
                  go_roundw
                  case rel => exact ⟨i + 1, A9, c9, by omega, by go_num, X9.out.put 1 _, by rw [List.take_add_one, HZ.out]; exact ((VX9.out.mono (fun b hb => hb.elim id (fun h => ⟨by simp only [World.size_drew] at h; omega, by simp only [World.size_drew] at h; omega⟩))).touch (S := fun b => b = o) ((Touch.refl (fun b => b = o) w9).setCell (p := ⟨o, 1, none⟩) rfl _) (fun b hb e => hb.2 e))⟩
                  case measure => (simp [intOf]; omega)
                exact AllReadyH.nil
              exact AllReadyH.nil
            exact AllReadyH.nil
          refine AllReadyH.cons rfl (fun K hK => ?_) ?_
          · go_simp
            refine hK.out _ _ ?_ (fun hH11 => ?_)
            · first | exact HS.out _ _ XS.out | exact HS.out _ _ X9.out | exact HS.out _ _ XL.out | exact HS.out _ _ X8.out | exact HS.out _ _ XD.out
            clear hK K hH6
            (try simp only [Act.put, List.setIfInBounds_toArray, List.set_cons_zero, List.set_cons_succ])
            refine wpAnyH_ready (rs := [1]) (by kernel_rfl) (by simp) ?_
            refine AllReadyH.cons rfl (fun K hK => ?_) ?_
            · go_simp
              refine hK.out _ _ ?_ (fun hH12 => ?_)
              · first | exact HS.out _ _ XS.out | exact HS.out _ _ X9.out | exact HS.out _ _ XL.out | exact HS.out _ _ X8.out | exact HS.out _ _ XD.out
              clear hK K hH11
              (try simp only [Act.put, List.setIfInBounds_toArray, List.set_cons_zero, List.set_cons_succ])
              refine wpAnyH_ready (rs := [9]) (by kernel_rfl) (by simp) ?_
              refine AllReadyH.cons rfl (fun K hK => ?_) ?_
              · (refine step_append_dat _ rfl _ _ 24 rfl 12 (by omega) 38 i1 _ 144 Try.underlying24 hj1 hx1 hy1 rfl hz1 0 A' i c' (L1.take i) Bg rfl HG.out (some ⟨w8.heap.size, 0, none⟩) 1 1 [.r [.i g0, .i g1, .l M2, .i g3, .r [.i g4_0, .i g4_1], .l M5, .l M6, .i g7, .i g8, .i g9, .i g10]] (rng wr.drew.heap.size w8.heap.size) rfl (Src.lit rfl HO.out rfl (fun b hb => hb.2)) (fun b hb hb2 => by have h1 := (HGB.out b hb).2; have h2 := hb2.1; omega) (fun a e hb2 => by have h1 := (HGA.out a e).2; have h2 := hb2.1; omega) (by unfold maxLen; omega) (by omega) (Nat.zero_le _) ?_; intro A9 c9 w9 hG9 hT9 hA9; (have VX9 := Lib.hid (HBK.out w9 A9 _ c9 _ _ hG9 hT9 hA9 (fun b hb => hb.1))); (have X9 := Lib.hid (CpB.touch XL.out hT9 (fun b ⟨a, e, hb⟩ => by rw [hb]; exact (HGA.out a e).1))); (have XS := Lib.hid (CpB.put X9.out 1 (.slice A9 (i + 1) c9))); clear hG9 hT9 hA9; (obtain ⟨v0, v1, v2, v3, v4, fv⟩ := X9.out.2.1.d5))
                refine hK.out _ _ ?_ (fun hH13 => ?_)
                · first | exact HS.out _ _ XS.out | exact HS.out _ _ X9.out | exact HS.out _ _ XL.out | exact HS.out _ _ X8.out | exact HS.out _ _ XD.out
                clear hK K hH12
                (try simp only [Act.put, List.setIfInBounds_toArray, List.set_cons_zero, List.set_cons_succ])
                refine wpAnyH_take (i := 10) (v := ?_) rfl (by kernel_rfl) (by kernel_rfl) (by kernel_rfl) (fun _ _ _ h => h) (Or.inl ⟨by rfl, ?_⟩) hH13 ?_
                rotate_left
                · intro w hSw; (try dsimp only at hSw); go_simp; (try with_reducible rfl)
                simp only [Act.put, List.setIfInBounds_toArray, List.set_cons_zero, List.set_cons_succ]
                refine wpAnyH_ready (rs := [11]) (by kernel_rfl) (by simp) ?_
                refine AllReadyH.cons rfl (fun K hK => ?_) ?_
                · go_simp
                  refine hK.out _ _ ?_ (fun hH14 => ?_)
                  · first | exact HS.out _ _ XS.out | exact HS.out _ _ X9.out | exact HS.out _ _ XL.out | exact HS.out _ _ X8.out | exact HS.out _ _ XD.out
                  clear hK K hH13
                  (try simp only [Act.put, List.setIfInBounds_toArray, List.set_cons_zero, List.set_cons_succ])
                  refine wpAnyH_done (by kernel_rfl) ?_ _
                  go_wp2_with fail
                  go_roundw
                  case rel => exact ⟨i + 1, A9, c9, by omega, by go_num, X9.out.put 1 _, by rw [List.take_add_one, HZ.out]; exact ((VX9.out.mono (fun b hb => hb.elim id (fun h => ⟨by simp only [World.size_drew] at h; omega, by simp only [World.size_drew] at h; omega⟩))).touch (S := fun b => b = o) ((Touch.refl (fun b => b = o) w9).setCell (p := ⟨o, 1, none⟩) rfl _) (fun b hb e => hb.2 e))⟩
                  case measure => (simp [intOf]; omega)
                exact AllReadyH.nil
              exact AllReadyH.nil
            exact AllReadyH.nil
          exact AllReadyH.nil
        exact AllReadyH.nil
      · obtain rfl : n1 = i := by omega
        have hV := VX.out
        rw [List.take_of_length_le (by have h1 := HC1.out; omega)] at hV
        clear VX
        have VX := Lib.hid hV
        clear hV
        obtain ⟨z0, z1, z2, z3, z4, fz⟩ := X.out.1.2.1.d5
        obtain ⟨y0, y1, y2, y3, y4, fy⟩ := X.out.2.1.d5
        obtain ⟨q0, q1, q2, q3, q4, fq⟩ := X.out.1.2.2.1.d5
        have hlo := X.out.lt
        have hlo2 := X.out.2.2
        go_wp2_with fail
        clear z0 z1 z2 z3 z4 fz y0 y1 y2 y3 y4 fy q0 q1 q2 q3 q4 fq
        obtain ⟨B1, hB1⟩ : ∃ B, B = A' := ⟨_, rfl⟩
        obtain ⟨k1, hk1⟩ : ∃ k, k = c' := ⟨_, rfl⟩
        subst hB1 hk1
        go_loopw [5] (fun iv wr => ∃ (i : Nat) (A' : Option Addr) (c' : Nat), i ≤ n3 ∧ iv = .int .i64 i ∧ CpB w o [.int .i64 f0, .slice A1 n1 c1, .slice A2 n2 c2, .slice A3 n3 c3, .slice A4 n4 c4] [.int .i64 f0, .slice B1 n1 k1, .slice B2 n2 k2, .slice A' i c', .slice none 0 0] wr ∧ VatX (fun b => w.heap.size + 1 + 1 ≤ b ∧ b ≠ o) wr L1 B1 n1 k1 L2 B2 n2 k2 (L3.take i) A' i c' [] none 0 0) (fun iv _ => n3 - (intOf iv).toNat)
        case atStart => exact ⟨0, none, 0, Nat.zero_le _, rfl, X.out, VX.out⟩
        case round =>
          obtain ⟨i, A', c', hin, rfl, hX, hV⟩ := hrel
          clear X VX
          have X := Lib.hid hX
          have VX := Lib.hid hV
          clear hX hV
          by_cases hlt : i < n3
          · obtain ⟨b, off, d, xs, rfl, hbw, hzi, hlie, hlen, hcell⟩ := HL3.out.elem (fun x hx => (HT3.out x hx).width) hlt
            have hdbig := HN3.out d (List.mem_of_getElem? hzi)
            obtain ⟨g0, g1, M2, D2, m2, j2, g3, M4, D4, m4, j4, g5, M6, D6, m6, j6, rfl, rfl, he2, hf2, -, he4, hf4, -, he6, hf6, -⟩ := invLink (HT3.out d (List.mem_of_getElem? hzi)) hlie
            have hu2 : (Dat.l M2).bulk ≤ 549755813888 := by have h1 := hdbig; simp only [Dat.bulk, bulkAll] at h1 ⊢; omega
            have hu4 : (Dat.l M4).bulk ≤ 549755813888 := by have h1 := hdbig; simp only [Dat.bulk, bulkAll] at h1 ⊢; omega
            have hu6 : (Dat.l M6).bulk ≤ 549755813888 := by have h1 := hdbig; simp only [Dat.bulk, bulkAll] at h1 ⊢; omega
            have XD : Hid (CpB w o [.int .i64 f0, .slice A1 n1 c1, .slice A2 n2 c2, .slice (some ⟨b, off, none⟩) n3 c3, .slice A4 n4 c4] [.int .i64 f0, .slice B1 n1 k1, .slice B2 n2 k2, .slice A' i c', .slice none 0 0] wr.drew) := Lib.hid (X.out.below (Below.refl _ _).drew)
            have HE2 := Lib.hid (he2.below XD.out.1.1)
            have HF2 := Lib.hid hf2
            have HE4 := Lib.hid (he4.below XD.out.1.1)
            have HF4 := Lib.hid hf4
            have HE6 := Lib.hid (he6.below XD.out.1.1)
            have HF6 := Lib.hid hf6
            have HS : Hid (∀ (w' : World) (oc : List Value), CpB w o [.int .i64 f0, .slice A1 n1 c1, .slice A2 n2 c2, .slice (some ⟨b, off, none⟩) n3 c3, .slice A4 n4 c4] oc w' → (w'.cell? ⟨w.heap.size, 3, none⟩ = some (.slice (some ⟨b, off, none⟩) n3 c3) ∧ w'.cell? ⟨b, off + i * 7, none⟩ = some (.int .i64 g0) ∧ w'.cell? ⟨b, off + i * 7 + 1, none⟩ = some (.bool g1) ∧ w'.cell? ⟨b, off + i * 7 + 2, none⟩ = some (.slice D2 m2 j2) ∧ w'.cell? ⟨b, off + i * 7 + 3, none⟩ = some (.int .i64 g3) ∧ w'.cell? ⟨b, off + i * 7 + 4, none⟩ = some (.slice D4 m4 j4) ∧ w'.cell? ⟨b, off + i * 7 + 5, none⟩ = some (.int .i64 g5) ∧ w'.cell? ⟨b, off + i * 7 + 6, none⟩ = some (.slice D6 m6 j6))) := Lib.hid (fun w' oc h => ⟨h.1.2.1.d5.2.2.2.1, (h.1.1.cell (p := ⟨b, off + i * 7, none⟩) hbw).trans (hcell 0 _ rfl), (h.1.1.cell (p := ⟨b, off + i * 7 + 1, none⟩) hbw).trans (hcell 1 _ rfl), (h.1.1.cell (p := ⟨b, off + i * 7 + 2, none⟩) hbw).trans (hcell 2 _ rfl), (h.1.1.cell (p := ⟨b, off + i * 7 + 3, none⟩) hbw).trans (hcell 3 _ rfl), (h.1.1.cell (p := ⟨b, off + i * 7 + 4, none⟩) hbw).trans (hcell 4 _ rfl), (h.1.1.cell (p := ⟨b, off + i * 7 + 5, none⟩) hbw).trans (hcell 5 _ rfl), (h.1.1.cell (p := ⟨b, off + i * 7 + 6, none⟩) hbw).trans (hcell 6 _ rfl)⟩)
            have VXD := Lib.hid (VX.out.below (Below.refl _ _).drew)
            have hlo := X.out.lt
            have hlo2 := X.out.2.2
            have HZ := Lib.hid hzi
            obtain ⟨z0, z1, z2, z3, z4, fz⟩ := X.out.1.2.1.d5
            obtain ⟨y0, y1, y2, y3, y4, fy⟩ := X.out.2.1.d5
            clear hzi hcell hlie hlen hdbig hbw he2 hf2 he4 hf4 he6 hf6
            go_wp2_with fail
            refine wp_region_held_drew (S := (fun w' => w'.cell? ⟨w.heap.size, 3, none⟩ = some (.slice (some ⟨b, off, none⟩) n3 c3) ∧ w'.cell? ⟨b, off + i * 7, none⟩ = some (.int .i64 g0) ∧ w'.cell? ⟨b, off + i * 7 + 1, none⟩ = some (.bool g1) ∧ w'.cell? ⟨b, off + i * 7 + 2, none⟩ = some (.slice D2 m2 j2) ∧ w'.cell? ⟨b, off + i * 7 + 3, none⟩ = some (.int .i64 g3) ∧ w'.cell? ⟨b, off + i * 7 + 4, none⟩ = some (.slice D4 m4 j4) ∧ w'.cell? ⟨b, off + i * 7 + 5, none⟩ = some (.int .i64 g5) ∧ w'.cell? ⟨b, off + i * 7 + 6, none⟩ = some (.slice D6 m6 j6))) (by kernel_rfl) ?_ (fun hH0 => ?_)
            · first | exact HS.out _ _ XS.out | exact HS.out _ _ X9.out | exact HS.out _ _ XL.out | exact HS.out _ _ X8.out | exact HS.out _ _ XD.out
            refine wpAnyH_take (i := 0) (v := ?_) rfl (by kernel_rfl) (by kernel_rfl) (by kernel_rfl) (fun _ _ _ h => h) (Or.inl ⟨by rfl, ?_⟩) hH0 ?_
            rotate_left
            · intro w hSw; (try dsimp only at hSw); go_simp; (try with_reducible rfl)
            simp only [Act.put, List.setIfInBounds_toArray, List.set_cons_zero, List.set_cons_succ]
            refine wpAnyH_take (i := 2) (v := ?_) rfl (by kernel_rfl) (by kernel_rfl) (by kernel_rfl) (fun _ _ _ h => h) (Or.inl ⟨by rfl, ?_⟩) hH0 ?_
            rotate_left
            · intro w hSw; (try dsimp only at hSw); go_simp; (try with_reducible rfl)
            simp only [Act.put, List.setIfInBounds_toArray, List.set_cons_zero, List.set_cons_succ]
            refine wpAnyH_take (i := 3) (v := ?_) rfl (by kernel_rfl) (by kernel_rfl) (by kernel_rfl) (fun _ _ _ h => h) (Or.inl ⟨by rfl, ?_⟩) hH0 ?_
            rotate_left
            · intro w hSw; (try dsimp only at hSw); go_simp; (try with_reducible rfl)
            simp only [Act.put, List.setIfInBounds_toArray, List.set_cons_zero, List.set_cons_succ]
            refine wpAnyH_take (i := 4) (v := ?_) rfl (by kernel_rfl) (by kernel_rfl) (by kernel_rfl) (fun _ _ _ h => h) (Or.inl ⟨by rfl, ?_⟩) hH0 ?_
            rotate_left
            · intro w hSw; (try dsimp only at hSw); go_simp; (try with_reducible rfl)
            simp only [Act.put, List.setIfInBounds_toArray, List.set_cons_zero, List.set_cons_succ]
            refine wpAnyH_take (i := 5) (v := ?_) rfl (by kernel_rfl) (by kernel_rfl) (by kernel_rfl) (fun _ _ _ h => h) (Or.inl ⟨by rfl, ?_⟩) hH0 ?_
            rotate_left
            · intro w hSw; (try dsimp only at hSw); go_simp; (try with_reducible rfl)
            simp only [Act.put, List.setIfInBounds_toArray, List.set_cons_zero, List.set_cons_succ]
            refine wpAnyH_take (i := 6) (v := ?_) rfl (by kernel_rfl) (by kernel_rfl) (by kernel_rfl) (fun _ _ _ h => h) (Or.inl ⟨by rfl, ?_⟩) hH0 ?_
            rotate_left
            · intro w hSw; (try dsimp only at hSw); go_simp; (try with_reducible rfl)
            simp only [Act.put, List.setIfInBounds_toArray, List.set_cons_zero, List.set_cons_succ]
            refine wpAnyH_ready (rs := [1, 7]) (by kernel_rfl) (by simp) ?_
            refine AllReadyH.cons rfl (fun K hK => ?_) ?_
            · go_simp
              refine hK.out _ _ ?_ (fun hH1 => ?_)
              · first | exact HS.out _ _ XS.out | exact HS.out _ _ X9.out | exact HS.out _ _ XL.out | exact HS.out _ _ X8.out | exact HS.out _ _ XD.out
              clear hK K hH0
              (try simp only [Act.put, List.setIfInBounds_toArray, List.set_cons_zero, List.set_cons_succ])
              refine wpAnyH_ready (rs := [7]) (by kernel_rfl) (by simp) ?_
              refine AllReadyH.cons rfl (fun K hK => ?_) ?_
              · (go_simp; go_at_call 134; (with_reducible refine (specCopL g0 g1 M2 D2 m2 j2 g3 M4 D4 m4 j4 g5 M6 D6 m6 j6 _ HE2.out HF2.out hu2 HE4.out HF4.out hu4 HE6.out HF6.out hu6).mono ?_); rintro e w8 ⟨Q2, t2, Q4, t4, Q6, t6, rfl, hO, hb⟩; (have HO := Lib.hid hO); (have X8 := Lib.hid (CpB.below XD.out hb)); (have XL := Lib.hid (CpB.below X8.out ((Below.refl _ _).alloc (Nat.le_refl _) (.cells #[.int .i64 g0, .bool g1, .slice Q2 m2 t2, .int .i64 g3, .slice Q4 m4 t4, .int .i64 g5, .slice Q6 m6 t6] 97)))); (obtain ⟨Bg, hg, hgB, hgA, hbk⟩ := VXD.out.app3 (hb.alloc hb.size (.cells #[.int .i64 g0, .bool g1, .slice Q2 m2 t2, .int .i64 g3, .slice Q4 m4 t4, .int .i64 g5, .slice Q6 m6 t6] 97))); (have HG := Lib.hid hg); (have HGB := Lib.hid hgB); (have HGA := Lib.hid hgA); (have HBK := Lib.hid hbk); (have a3 := X8.out.2.1.d5.2.2.2.1); (have F8 := fun o9 => (X8.out.below ((Below.refl _ _).alloc (Nat.le_refl _) o9)).2.1.d5.2.2.2.1); clear hO hb hg hgB hgA hbk; (try (go_wp2_with fail)))
                refine hK.out _ _ ?_ (fun hH2 => ?_)
                · first | exact HS.out _ _ XS.out | exact HS.out _ _ X9.out | exact HS.out _ _ XL.out | exact HS.out _ _ X8.out | exact HS.out _ _ XD.out
                clear hK K hH1
                (try simp only [Act.put, List.setIfInBounds_toArray, List.set_cons_zero, List.set_cons_succ])
                refine wpAnyH_ready (rs := [8]) (by kernel_rfl) (by simp) ?_
                refine AllReadyH.cons rfl (fun K hK => ?_) ?_
                · go_simp
                  refine hK.out _ _ ?_ (fun hH3 => ?_)
                  · first | exact HS.out _ _ XS.out | exact HS.out _ _ X9.out | exact HS.out _ _ XL.out | exact HS.out _ _ X8.out | exact HS.out _ _ XD.out
                  clear hK K hH2
                  (try simp only [Act.put, List.setIfInBounds_toArray, List.set_cons_zero, List.set_cons_succ])
                  refine wpAnyH_ready (rs := [9]) (by kernel_rfl) (by simp) ?_
                  refine AllReadyH.cons rfl (fun K hK => ?_) ?_
                  · (refine step_append_dat _ rfl _ _ 26 rfl 7 (by omega) 97 i3 _ 104 Try.underlying26 hj3 hx3 hy3 rfl hz3 0 A' i c' (L3.take i) Bg rfl HG.out (some ⟨w8.heap.size, 0, none⟩) 1 1 [.r [.i g0, .b g1, .l M2, .i g3, .l M4, .i g5, .l M6]] (rng wr.drew.heap.size w8.heap.size) rfl (Src.lit rfl HO.out rfl (fun b hb => hb.2)) (fun b hb hb2 => by have h1 := (HGB.out b hb).2; have h2 := hb2.1; omega) (fun a e hb2 => by have h1 := (HGA.out a e).2; have h2 := hb2.1; omega) (by unfold maxLen; omega) (by omega) (Nat.zero_le _) ?_; intro A9 c9 w9 hG9 hT9 hA9; (have VX9 := Lib.hid (HBK.out w9 A9 _ c9 _ _ hG9 hT9 hA9 (fun b hb => hb.1))); (have X9 := Lib.hid (CpB.touch XL.out hT9 (fun b ⟨a, e, hb⟩ => by rw [hb]; exact (HGA.out a e).1))); (have XS := Lib.hid (CpB.put X9.out 3 (.slice A9 (i + 1) c9))); clear hG9 hT9 hA9; (obtain ⟨v0, v1, v2, v3, v4, fv⟩ := X9.out.2.1.d5))
                    refine hK.out _ _ ?_ (fun hH4 => ?_)
                    · first | exact HS.out _ _ XS.out | exact HS.out _ _ X9.out | exact HS.out _ _ XL.out | exact HS.out _ _ X8.out | exact HS.out _ _ XD.out
                    clear hK K hH3
                    (try simp only [Act.put, List.setIfInBounds_toArray, List.set_cons_zero, List.set_cons_succ])
                    refine wpAnyH_take (i := 10) (v := ?_) rfl (by kernel_rfl) (by kernel_rfl) (by kernel_rfl) (fun _ _ _ h => h) (Or.inl ⟨by rfl, ?_⟩) hH4 ?_
                    rotate_left
                    · intro w hSw; (try dsimp only at hSw); go_simp; (try with_reducible rfl)
                    simp only [Act.put, List.setIfInBounds_toArray, List.set_cons_zero, List.set_cons_succ]
                    refine wpAnyH_ready (rs := [11]) (by kernel_rfl) (by simp) ?_
                    refine AllReadyH.cons rfl (fun K hK => ?_) ?_
                    · go_simp
                      refine hK.out _ _ ?_ (fun hH5 => ?_)
                      · first | exact HS.out _ _ XS.out | exact HS.out _ _ X9.out | exact HS.out _ _ XL.out | exact HS.out _ _ X8.out | exact HS.out _ _ XD.out
                      clear hK K hH4
                      (try simp only [Act.put, List.setIfInBounds_toArray, List.set_cons_zero, List.set_cons_succ])
                      refine wpAnyH_done (by kernel_rfl) ?_ _
                      go_wp2_with fail
                      go_roundw
                      case rel => exact ⟨i + 1, A9, c9, by omega, by go_num, X9.out.put 3 _, by rw [List.take_add_one, HZ.out]; exact ((VX9.out.mono (fun b hb => hb.elim id (fun h => ⟨by simp only [World.size_drew] at h; omega, by simp only [World.size_drew] at h; omega⟩))).touch (S := fun b => b = o) ((Touch.refl (fun b => b = o) w9).setCell (p := ⟨o, 3, none⟩) rfl _) (fun b hb e => hb.2 e))⟩
                      case measure => (simp [intOf]; omega)
                    exact AllReadyH.nil
                  exact AllReadyH.nil
                exact AllReadyH.nil
              exact AllReadyH.nil
            refine AllReadyH.cons rfl (fun K hK => ?_) ?_
            · (go_simp; go_at_call 134; (with_reducible refine (specCopL g0 g1 M2 D2 m2 j2 g3 M4 D4 m4 j4 g5 M6 D6 m6 j6 _ HE2.out HF2.out hu2 HE4.out HF4.out hu4 HE6.out HF6.out hu6).mono ?_); rintro e w8 ⟨Q2, t2, Q4, t4, Q6, t6, rfl, hO, hb⟩; (have HO := Lib.hid hO); (have X8 := Lib.hid (CpB.below XD.out hb)); (have XL := Lib.hid (CpB.below X8.out ((Below.refl _ _).alloc (Nat.le_refl _) (.cells #[.int .i64 g0, .bool g1, .slice Q2 m2 t2, .int .i64 g3, .slice Q4 m4 t4, .int .i64 g5, .slice Q6 m6 t6] 97)))); (obtain ⟨Bg, hg, hgB, hgA, hbk⟩ := VXD.out.app3 (hb.alloc hb.size (.cells #[.int .i64 g0, .bool g1, .slice Q2 m2 t2, .int .i64 g3, .slice Q4 m4 t4, .int .i64 g5, .slice Q6 m6 t6] 97))); (have HG := Lib.hid hg); (have HGB := Lib.hid hgB); (have HGA := Lib.hid hgA); (have HBK := Lib.hid hbk); (have a3 := X8.out.2.1.d5.2.2.2.1); (have F8 := fun o9 => (X8.out.below ((Below.refl _ _).alloc (Nat.le_refl _) o9)).2.1.d5.2.2.2.1); clear hO hb hg hgB hgA hbk; (try (go_wp2_with fail)))
              refine hK.out _ _ ?_ (fun hH6 => ?_)
              · first | exact HS.out _ _ XS.out | exact HS.out _ _ X9.out | exact HS.out _ _ XL.out | exact HS.out _ _ X8.out | exact HS.out _ _ XD.out
              clear hK K hH0
              (try simp only [Act.put, List.setIfInBounds_toArray, List.set_cons_zero, List.set_cons_succ])
              refine wpAnyH_ready (rs := [1, 8]) (by kernel_rfl) (by simp) ?_
              refine AllReadyH.cons rfl (fun K hK => ?_) ?_
              · go_simp
                refine hK.out _ _ ?_ (fun hH7 => ?_)
                · first | exact HS.out _ _ XS.out | exact HS.out _ _ X9.out | exact HS.out _ _ XL.out | exact HS.out _ _ X8.out | exact HS.out _ _ XD.out
                clear hK K hH6
                (try simp only [Act.put, List.setIfInBounds_toArray, List.set_cons_zero, List.set_cons_succ])
                refine wpAnyH_ready (rs := [8]) (by kernel_rfl) (by simp) ?_
                refine AllReadyH.cons rfl (fun K hK => ?_) ?_
                · go_simp
                  refine hK.out _ _ ?_ (fun hH8 => ?_)
                  · first | exact HS.out _ _ XS.out | exact HS.out _ _ X9.out | exact HS.out _ _ XL.out | exact HS.out _ _ X8.out | exact HS.out _ _ XD.out
                  clear hK K hH7
                  (try simp only [Act.put, List.setIfInBounds_toArray, List.set_cons_zero, List.set_cons_succ])
                  refine wpAnyH_ready (rs := [9]) (by kernel_rfl) (by simp) ?_
                  refine AllReadyH.cons rfl (fun K hK => ?_) ?_
                  · (refine step_append_dat _ rfl _ _ 26 rfl 7 (by omega) 97 i3 _ 104 Try.underlying26 hj3 hx3 hy3 rfl hz3 0 A' i c' (L3.take i) Bg rfl HG.out (some ⟨w8.heap.size, 0, none⟩) 1 1 [.r [.i g0, .b g1, .l M2, .i g3, .l M4, .i g5, .l M6]] (rng wr.drew.heap.size w8.heap.size) rfl (Src.lit rfl HO.out rfl (fun b hb => hb.2)) (fun b hb hb2 => by have h1 := (HGB.out b hb).2; have h2 := hb2.1; omega) (fun a e hb2 => by have h1 := (HGA.out a e).2; have h2 := hb2.1; omega) (by unfold maxLen; omega) (by omega) (Nat.zero_le _) ?_; intro A9 c9 w9 hG9 hT9 hA9; (have VX9 := Lib.hid (HBK.out w9 A9 _ c9 _ _ hG9 hT9 hA9 (fun b hb => hb.1))); (have X9 := Lib.hid (CpB.touch XL.out hT9 (fun b ⟨a, e, hb⟩ => by rw [hb]; exact (HGA.out a e).1))); (have XS := Lib.hid (CpB.put X9.out 3 (.slice A9 (i + 1) c9))); clear hG9 hT9 hA9; (obtain ⟨v0, v1, v2, v3, v4, fv⟩ := X9.out.2.1.d5))
                    refine hK.out _ _ ?_ (fun hH9 => ?_)
                    · first | exact HS.out _ _ XS.out | exact HS.out _ _ X9.out | exact HS.out _ _ XL.out | exact HS.out _ _ X8.out | exact HS.out _ _ XD.out
                    clear hK K hH8
                    (try simp only [Act.put, List.setIfInBounds_toArray, List.set_cons_zero, List.set_cons_succ])
                    refine wpAnyH_take (i := 10) (v := ?_) rfl (by kernel_rfl) (by kernel_rfl) (by kernel_rfl) (fun _ _ _ h => h) (Or.inl ⟨by rfl, ?_⟩) hH9 ?_
                    rotate_left
                    · intro w hSw; (try dsimp only at hSw); go_simp; (try with_reducible rfl)
                    simp only [Act.put, List.setIfInBounds_toArray, List.set_cons_zero, List.set_cons_succ]
                    refine wpAnyH_ready (rs := [11]) (by kernel_rfl) (by simp) ?_
                    refine AllReadyH.cons rfl (fun K hK => ?_) ?_
                    · go_simp
                      refine hK.out _ _ ?_ (fun hH10 => ?_)
                      · first | exact HS.out _ _ XS.out | exact HS.out _ _ X9.out | exact HS.out _ _ XL.out | exact HS.out _ _ X8.out | exact HS.out _ _ XD.out
                      clear hK K hH9
                      (try simp only [Act.put, List.setIfInBounds_toArray, List.set_cons_zero, List.set_cons_succ])
                      refine wpAnyH_done (by kernel_rfl) ?_ _
                      go_wp2_with fail
                      go_roundw
                      case rel => exact ⟨i + 1, A9, c9, by omega, by go_num, X9.out.put 3 _, by rw [List.take_add_one, HZ.out]; exact ((VX9.out.mono (fun b hb => hb.elim id (fun h => ⟨by simp only [World.size_drew] at h; omega, by simp only [World.size_drew] at h; omega⟩))).touch (S := fun b => b = o) ((Touch.refl (fun b => b = o) w9).setCell (p := ⟨o, 3, none⟩) rfl _) (fun b hb e => hb.2 e))⟩
                      case measure => (simp [intOf]; omega)
                    exact AllReadyH.nil
                  exact AllReadyH.nil
                exact AllReadyH.nil
              refine AllReadyH.cons rfl (fun K hK => ?_) ?_
              · go_simp
                refine hK.out _ _ ?_ (fun hH11 => ?_)
                · first | exact HS.out _ _ XS.out | exact HS.out _ _ X9.out | exact HS.out _ _ XL.out | exact HS.out _ _ X8.out | exact HS.out _ _ XD.out
                clear hK K hH6
                (try simp only [Act.put, List.setIfInBounds_toArray, List.set_cons_zero, List.set_cons_succ])
                refine wpAnyH_ready (rs := [1]) (by kernel_rfl) (by simp) ?_
                refine AllReadyH.cons rfl (fun K hK => ?_) ?_
                · go_simp
                  refine hK.out _ _ ?_ (fun hH12 => ?_)
                  · first | exact HS.out _ _ XS.out | exact HS.out _ _ X9.out | exact HS.out _ _ XL.out | exact HS.out _ _ X8.out | exact HS.out _ _ XD.out
                  clear hK K hH11
                  (try simp only [Act.put, List.setIfInBounds_toArray, List.set_cons_zero, List.set_cons_succ])
                  refine wpAnyH_ready (rs := [9]) (by kernel_rfl) (by simp) ?_
                  refine AllReadyH.cons rfl (fun K hK => ?_) ?_
                  · (refine step_append_dat _ rfl _ _ 26 rfl 7 (by omega) 97 i3 _ 104 Try.underlying26 hj3 hx3 hy3 rfl hz3 0 A' i c' (L3.take i) Bg rfl HG.out (some ⟨w8.heap.size, 0, none⟩) 1 1 [.r [.i g0, .b g1, .l M2, .i g3, .l M4, .i g5, .l M6]] (rng wr.drew.heap.size w8.heap.size) rfl (Src.lit rfl HO.out rfl (fun b hb => hb.2)) (fun b hb hb2 => by have h1 := (HGB.out b hb).2; have h2 := hb2.1; omega) (fun a e hb2 => by have h1 := (HGA.out a e).2; have h2 := hb2.1; omega) (by unfold maxLen; omega) (by omega) (Nat.zero_le _) ?_; intro A9 c9 w9 hG9 hT9 hA9; (have VX9 := Lib.hid (HBK.out w9 A9 _ c9 _ _ hG9 hT9 hA9 (fun b hb => hb.1))); (have X9 := Lib.hid (CpB.touch XL.out hT9 (fun b ⟨a, e, hb⟩ => by rw [hb]; exact (HGA.out a e).1))); (have XS := Lib.hid (CpB.put X9.out 3 (.slice A9 (i + 1) c9))); clear hG9 hT9 hA9; (obtain ⟨v0, v1, v2, v3, v4, fv⟩ := X9.out.2.1.d5))
                    refine hK.out _ _ ?_ (fun hH13 => ?_)
                    · first | exact HS.out _ _ XS.out | exact HS.out _ _ X9.out | exact HS.out _ _ XL.out | exact HS.out _ _ X8.out | exact HS.out _ _ XD.out
                    clear hK K hH12
                    (try simp only [Act.put, List.setIfInBounds_toArray, List.set_cons_zero, List.set_cons_succ])
                    refine wpAnyH_take (i := 10) (v := ?_) rfl (by kernel_rfl) (by kernel_rfl) (by kernel_rfl) (fun _ _ _ h => h) (Or.inl ⟨by rfl, ?_⟩) hH13 ?_
                    rotate_left
                    · intro w hSw; (try dsimp only at hSw); go_simp; (try with_reducible rfl)
                    simp only [Act.put, List.setIfInBounds_toArray, List.set_cons_zero, List.set_cons_succ]
                    refine wpAnyH_ready (rs := [11]) (by kernel_rfl) (by simp) ?_
                    refine AllReadyH.cons rfl (fun K hK => ?_) ?_
                    · go_simp
                      refine hK.out _ _ ?_ (fun hH14 => ?_)
                      · first | exact HS.out _ _ XS.out | exact HS.out _ _ X9.out | exact HS.out _ _ XL.out | exact HS.out _ _ X8.out | exact HS.out _ _ XD.out
                      clear hK K hH13
                      (try simp only [Act.put, List.setIfInBounds_toArray, List.set_cons_zero, List.set_cons_succ])
                      refine wpAnyH_done (by kernel_rfl) ?_ _
                      go_wp2_with fail
                      go_roundw
                      case rel => exact ⟨i + 1, A9, c9, by omega, by go_num, X9.out.put 3 _, by rw [List.take_add_one, HZ.out]; exact ((VX9.out.mono (fun b hb => hb.elim id (fun h => ⟨by simp only [World.size_drew] at h; omega, by simp only [World.size_drew] at h; omega⟩))).touch (S := fun b => b = o) ((Touch.refl (fun b => b = o) w9).setCell (p := ⟨o, 3, none⟩) rfl _) (fun b hb e => hb.2 e))⟩
                      case measure => (simp [intOf]; omega)
                    exact AllReadyH.nil
                  exact AllReadyH.nil
                exact AllReadyH.nil
              exact AllReadyH.nil
            exact AllReadyH.nil
          · obtain rfl : n3 = i := by omega
            have hV := VX.out
            rw [List.take_of_length_le (by have h1 := HC3.out; omega)] at hV
            clear VX
            have VX := Lib.hid hV
            clear hV
            obtain ⟨z0, z1, z2, z3, z4, fz⟩ := X.out.1.2.1.d5
            obtain ⟨y0, y1, y2, y3, y4, fy⟩ := X.out.2.1.d5
            obtain ⟨q0, q1, q2, q3, q4, fq⟩ := X.out.1.2.2.1.d5
            have hlo := X.out.lt
            have hlo2 := X.out.2.2
            go_wp2_with fail
            clear z0 z1 z2 z3 z4 fz y0 y1 y2 y3 y4 fy q0 q1 q2 q3 q4 fq
            obtain ⟨B3, hB3⟩ : ∃ B, B = A' := ⟨_, rfl⟩
            obtain ⟨k3, hk3⟩ : ∃ k, k = c' := ⟨_, rfl⟩
            subst hB3 hk3
            go_loopw [6] (fun iv wr => ∃ (i : Nat) (A' : Option Addr) (c' : Nat), i ≤ n4 ∧ iv = .int .i64 i ∧ CpB w o [.int .i64 f0, .slice A1 n1 c1, .slice A2 n2 c2, .slice A3 n3 c3, .slice A4 n4 c4] [.int .i64 f0, .slice B1 n1 k1, .slice B2 n2 k2, .slice B3 n3 k3, .slice A' i c'] wr ∧ VatX (fun b => w.heap.size + 1 + 1 ≤ b ∧ b ≠ o) wr L1 B1 n1 k1 L2 B2 n2 k2 L3 B3 n3 k3 (L4.take i) A' i c') (fun iv _ => n4 - (intOf iv).toNat)
            case atStart => exact ⟨0, none, 0, Nat.zero_le _, rfl, X.out, VX.out⟩
            case round =>
              obtain ⟨i, A', c', hin, rfl, hX, hV⟩ := hrel
              clear X VX
              have X := Lib.hid hX
              have VX := Lib.hid hV
              clear hX hV
              by_cases hlt : i < n4
              · obtain ⟨b, off, d, xs, rfl, hbw, hzi, hlie, hlen, hcell⟩ := HL4.out.elem (fun x hx => (HT4.out x hx).width) hlt
                have hdbig := HN4.out d (List.mem_of_getElem? hzi)
                obtain ⟨g0, g1_0, g1_1, g1_2, g1_3, g1_4, M1_5, D1_5, m1_5, j1_5, g1_6_0, g1_6_1, g1_7, g1_8_0, g1_8_1, g1_8_2, rfl, rfl, -, he1_5, hf1_5, -⟩ := invOutgoing (HT4.out d (List.mem_of_getElem? hzi)) hlie
                have hu1_5 : (Dat.l M1_5).bulk ≤ 549755813888 := by have h1 := hdbig; simp only [Dat.bulk, bulkAll] at h1 ⊢; omega
                have XD : Hid (CpB w o [.int .i64 f0, .slice A1 n1 c1, .slice A2 n2 c2, .slice A3 n3 c3, .slice (some ⟨b, off, none⟩) n4 c4] [.int .i64 f0, .slice B1 n1 k1, .slice B2 n2 k2, .slice B3 n3 k3, .slice A' i c'] wr.drew) := Lib.hid (X.out.below (Below.refl _ _).drew)
                have HE1_5 := Lib.hid (he1_5.below XD.out.1.1)
                have HF1_5 := Lib.hid hf1_5
                have HS : Hid (∀ (w' : World) (oc : List Value), CpB w o [.int .i64 f0, .slice A1 n1 c1, .slice A2 n2 c2, .slice A3 n3 c3, .slice (some ⟨b, off, none⟩) n4 c4] oc w' → (w'.cell? ⟨w.heap.size, 4, none⟩ = some (.slice (some ⟨b, off, none⟩) n4 c4) ∧ w'.cell? ⟨b, off + i * 13, none⟩ = some (.int .i64 g0) ∧ w'.cell? ⟨b, off + i * 13 + 1, none⟩ = some (.int .i64 g1_0) ∧ w'.cell? ⟨b, off + i * 13 + 2, none⟩ = some (.int .i64 g1_1) ∧ w'.cell? ⟨b, off + i * 13 + 3, none⟩ = some (.int .i64 g1_2) ∧ w'.cell? ⟨b, off + i * 13 + 4, none⟩ = some (.int .i64 g1_3) ∧ w'.cell? ⟨b, off + i * 13 + 5, none⟩ = some (.string g1_4) ∧ w'.cell? ⟨b, off + i * 13 + 6, none⟩ = some (.slice D1_5 m1_5 j1_5) ∧ w'.cell? ⟨b, off + i * 13 + 7, none⟩ = some (.int .i64 g1_6_0) ∧ w'.cell? ⟨b, off + i * 13 + 8, none⟩ = some (.int .i64 g1_6_1) ∧ w'.cell? ⟨b, off + i * 13 + 9, none⟩ = some (.int .i64 g1_7) ∧ w'.cell? ⟨b, off + i * 13 + 10, none⟩ = some (.int .i64 g1_8_0) ∧ w'.cell? ⟨b, off + i * 13 + 11, none⟩ = some (.int .i64 g1_8_1) ∧ w'.cell? ⟨b, off + i * 13 + 12, none⟩ = some (.int .i64 g1_8_2))) := Lib.hid (fun w' oc h => ⟨h.1.2.1.d5.2.2.2.2.1, (h.1.1.cell (p := ⟨b, off + i * 13, none⟩) hbw).trans (hcell 0 _ rfl), (h.1.1.cell (p := ⟨b, off + i * 13 + 1, none⟩) hbw).trans (hcell 1 _ rfl), (h.1.1.cell (p := ⟨b, off + i * 13 + 2, none⟩) hbw).trans (hcell 2 _ rfl), (h.1.1.cell (p := ⟨b, off + i * 13 + 3, none⟩) hbw).trans (hcell 3 _ rfl), (h.1.1.cell (p := ⟨b, off + i * 13 + 4, none⟩) hbw).trans (hcell 4 _ rfl), (h.1.1.cell (p := ⟨b, off + i * 13 + 5, none⟩) hbw).trans (hcell 5 _ rfl), (h.1.1.cell (p := ⟨b, off + i * 13 + 6, none⟩) hbw).trans (hcell 6 _ rfl), (h.1.1.cell (p := ⟨b, off + i * 13 + 7, none⟩) hbw).trans (hcell 7 _ rfl), (h.1.1.cell (p := ⟨b, off + i * 13 + 8, none⟩) hbw).trans (hcell 8 _ rfl), (h.1.1.cell (p := ⟨b, off + i * 13 + 9, none⟩) hbw).trans (hcell 9 _ rfl), (h.1.1.cell (p := ⟨b, off + i * 13 + 10, none⟩) hbw).trans (hcell 10 _ rfl), (h.1.1.cell (p := ⟨b, off + i * 13 + 11, none⟩) hbw).trans (hcell 11 _ rfl), (h.1.1.cell (p := ⟨b, off + i * 13 + 12, none⟩) hbw).trans (hcell 12 _ rfl)⟩)
                have VXD := Lib.hid (VX.out.below (Below.refl _ _).drew)
                have hlo := X.out.lt
                have hlo2 := X.out.2.2
                have HZ := Lib.hid hzi
                obtain ⟨z0, z1, z2, z3, z4, fz⟩ := X.out.1.2.1.d5
                obtain ⟨y0, y1, y2, y3, y4, fy⟩ := X.out.2.1.d5
                clear hzi hcell hlie hlen hdbig hbw he1_5 hf1_5
                go_wp2_with fail
                refine wp_region_held_drew (S := (fun w' => w'.cell? ⟨w.heap.size, 4, none⟩ = some (.slice (some ⟨b, off, none⟩) n4 c4) ∧ w'.cell? ⟨b, off + i * 13, none⟩ = some (.int .i64 g0) ∧ w'.cell? ⟨b, off + i * 13 + 1, none⟩ = some (.int .i64 g1_0) ∧ w'.cell? ⟨b, off + i * 13 + 2, none⟩ = some (.int .i64 g1_1) ∧ w'.cell? ⟨b, off + i * 13 + 3, none⟩ = some (.int .i64 g1_2) ∧ w'.cell? ⟨b, off + i * 13 + 4, none⟩ = some (.int .i64 g1_3) ∧ w'.cell? ⟨b, off + i * 13 + 5, none⟩ = some (.string g1_4) ∧ w'.cell? ⟨b, off + i * 13 + 6, none⟩ = some (.slice D1_5 m1_5 j1_5) ∧ w'.cell? ⟨b, off + i * 13 + 7, none⟩ = some (.int .i64 g1_6_0) ∧ w'.cell? ⟨b, off + i * 13 + 8, none⟩ = some (.int .i64 g1_6_1) ∧ w'.cell? ⟨b, off + i * 13 + 9, none⟩ = some (.int .i64 g1_7) ∧ w'.cell? ⟨b, off + i * 13 + 10, none⟩ = some (.int .i64 g1_8_0) ∧ w'.cell? ⟨b, off + i * 13 + 11, none⟩ = some (.int .i64 g1_8_1) ∧ w'.cell? ⟨b, off + i * 13 + 12, none⟩ = some (.int .i64 g1_8_2))) (by kernel_rfl) ?_ (fun hH0 => ?_)
                · first | exact HS.out _ _ XS.out | exact HS.out _ _ X9.out | exact HS.out _ _ XL.out | exact HS.out _ _ X8.out | exact HS.out _ _ XD.out
                refine wpAnyH_take (i := 0) (v := ?_) rfl (by kernel_rfl) (by kernel_rfl) (by kernel_rfl) (fun _ _ _ h => h) (Or.inl ⟨by rfl, ?_⟩) hH0 ?_
                rotate_left
                · intro w hSw; (try dsimp only at hSw); go_simp; (try with_reducible rfl)
                simp only [Act.put, List.setIfInBounds_toArray, List.set_cons_zero, List.set_cons_succ]
                refine wpAnyH_take (i := 2) (v := ?_) rfl (by kernel_rfl) (by kernel_rfl) (by kernel_rfl) (fun _ _ _ h => h) (Or.inl ⟨by rfl, ?_⟩) hH0 ?_
                rotate_left
                · intro w hSw; (try dsimp only at hSw); go_simp; (try with_reducible rfl)
                simp only [Act.put, List.setIfInBounds_toArray, List.set_cons_zero, List.set_cons_succ]
                refine wpAnyH_take (i := 3) (v := ?_) rfl (by kernel_rfl) (by kernel_rfl) (by kernel_rfl) (fun _ _ _ h => h) (Or.inl ⟨by rfl, ?_⟩) hH0 ?_
                rotate_left
                · intro w hSw; (try dsimp only at hSw); go_simp; (try with_reducible rfl)
                simp only [Act.put, List.setIfInBounds_toArray, List.set_cons_zero, List.set_cons_succ]
                refine wpAnyH_take (i := 4) (v := ?_) rfl (by kernel_rfl) (by kernel_rfl) (by kernel_rfl) (fun _ _ _ h => h) (Or.inl ⟨by rfl, ?_⟩) hH0 ?_
                rotate_left
                · intro w hSw; (try dsimp only at hSw); go_simp; (try with_reducible rfl)
                simp only [Act.put, List.setIfInBounds_toArray, List.set_cons_zero, List.set_cons_succ]
                refine wpAnyH_take (i := 5) (v := ?_) rfl (by kernel_rfl) (by kernel_rfl) (by kernel_rfl) (fun _ _ _ h => h) (Or.inl ⟨by rfl, ?_⟩) hH0 ?_
                rotate_left
                · intro w hSw; (try dsimp only at hSw); go_simp; (try with_reducible rfl)
                simp only [Act.put, List.setIfInBounds_toArray, List.set_cons_zero, List.set_cons_succ]
                refine wpAnyH_take (i := 6) (v := ?_) rfl (by kernel_rfl) (by kernel_rfl) (by kernel_rfl) (fun _ _ _ h => h) (Or.inl ⟨by rfl, ?_⟩) hH0 ?_
                rotate_left
                · intro w hSw; (try dsimp only at hSw); go_simp; (try with_reducible rfl)
                simp only [Act.put, List.setIfInBounds_toArray, List.set_cons_zero, List.set_cons_succ]
                refine wpAnyH_take (i := 7) (v := ?_) rfl (by kernel_rfl) (by kernel_rfl) (by kernel_rfl) (fun _ _ _ h => h) (Or.inl ⟨by rfl, ?_⟩) hH0 ?_
                rotate_left
                · intro w hSw; (try dsimp only at hSw); go_simp; (try with_reducible rfl)
                simp only [Act.put, List.setIfInBounds_toArray, List.set_cons_zero, List.set_cons_succ]
                refine wpAnyH_take (i := 8) (v := ?_) rfl (by kernel_rfl) (by kernel_rfl) (by kernel_rfl) (fun _ _ _ h => h) (Or.inl ⟨by rfl, ?_⟩) hH0 ?_
                rotate_left
                · intro w hSw; (try dsimp only at hSw); go_simp; (try with_reducible rfl)
                simp only [Act.put, List.setIfInBounds_toArray, List.set_cons_zero, List.set_cons_succ]
                refine wpAnyH_take (i := 9) (v := ?_) rfl (by kernel_rfl) (by kernel_rfl) (by kernel_rfl) (fun _ _ _ h => h) (Or.inl ⟨by rfl, ?_⟩) hH0 ?_
                rotate_left
                · intro w hSw; (try dsimp only at hSw); go_simp; (try with_reducible rfl)
                simp only [Act.put, List.setIfInBounds_toArray, List.set_cons_zero, List.set_cons_succ]
                refine wpAnyH_take (i := 10) (v := ?_) rfl (by kernel_rfl) (by kernel_rfl) (by kernel_rfl) (fun _ _ _ h => h) (Or.inl ⟨by rfl, ?_⟩) hH0 ?_
                rotate_left
                · intro w hSw; (try dsimp only at hSw); go_simp; (try with_reducible rfl)
                simp only [Act.put, List.setIfInBounds_toArray, List.set_cons_zero, List.set_cons_succ]
                refine wpAnyH_take (i := 11) (v := ?_) rfl (by kernel_rfl) (by kernel_rfl) (by kernel_rfl) (fun _ _ _ h => h) (Or.inl ⟨by rfl, ?_⟩) hH0 ?_
                rotate_left
                · intro w hSw; (try dsimp only at hSw); go_simp; (try with_reducible rfl)
                simp only [Act.put, List.setIfInBounds_toArray, List.set_cons_zero, List.set_cons_succ]
                refine wpAnyH_take (i := 12) (v := ?_) rfl (by kernel_rfl) (by kernel_rfl) (by kernel_rfl) (fun _ _ _ h => h) (Or.inl ⟨by rfl, ?_⟩) hH0 ?_
                rotate_left
                · intro w hSw; (try dsimp only at hSw); go_simp; (try with_reducible rfl)
                simp only [Act.put, List.setIfInBounds_toArray, List.set_cons_zero, List.set_cons_succ]
                refine wpAnyH_take (i := 13) (v := ?_) rfl (by kernel_rfl) (by kernel_rfl) (by kernel_rfl) (fun _ _ _ h => h) (Or.inl ⟨by rfl, ?_⟩) hH0 ?_
                rotate_left
                · intro w hSw; (try dsimp only at hSw); go_simp; (try with_reducible rfl)
                simp only [Act.put, List.setIfInBounds_toArray, List.set_cons_zero, List.set_cons_succ]
                refine wpAnyH_ready (rs := [1, 14]) (by kernel_rfl) (by simp) ?_
                refine AllReadyH.cons rfl (fun K hK => ?_) ?_
                · go_simp
                  refine hK.out _ _ ?_ (fun hH1 => ?_)
                  · first | exact HS.out _ _ XS.out | exact HS.out _ _ X9.out | exact HS.out _ _ XL.out | exact HS.out _ _ X8.out | exact HS.out _ _ XD.out
                  clear hK K hH0
                  (try simp only [Act.put, List.setIfInBounds_toArray, List.set_cons_zero, List.set_cons_succ])
                  refine wpAnyH_ready (rs := [14]) (by kernel_rfl) (by simp) ?_
                  refine AllReadyH.cons rfl (fun K hK => ?_) ?_
                  · (go_simp; go_at_call 154; (with_reducible refine (specCopM g1_0 g1_1 g1_2 g1_3 g1_4 M1_5 D1_5 m1_5 j1_5 g1_6_0 g1_6_1 g1_7 g1_8_0 g1_8_1 g1_8_2 _ HE1_5.out HF1_5.out hu1_5).mono ?_); rintro e w8 ⟨Q1_5, t1_5, rfl, hO, hb⟩; (have HO := Lib.hid hO); (have X8 := Lib.hid (CpB.below XD.out hb)); (have XL := Lib.hid (CpB.below X8.out ((Below.refl _ _).alloc (Nat.le_refl _) (.cells #[.int .i64 g0, .int .i64 g1_0, .int .i64 g1_1, .int .i64 g1_2, .int .i64 g1_3, .string g1_4, .slice Q1_5 m1_5 t1_5, .int .i64 g1_6_0, .int .i64 g1_6_1, .int .i64 g1_7, .int .i64 g1_8_0, .int .i64 g1_8_1, .int .i64 g1_8_2] 114)))); (obtain ⟨Bg, hg, hgB, hgA, hbk⟩ := VXD.out.app4 (hb.alloc hb.size (.cells #[.int .i64 g0, .int .i64 g1_0, .int .i64 g1_1, .int .i64 g1_2, .int .i64 g1_3, .string g1_4, .slice Q1_5 m1_5 t1_5, .int .i64 g1_6_0, .int .i64 g1_6_1, .int .i64 g1_7, .int .i64 g1_8_0, .int .i64 g1_8_1, .int .i64 g1_8_2] 114))); (have HG := Lib.hid hg); (have HGB := Lib.hid hgB); (have HGA := Lib.hid hgA); (have HBK := Lib.hid hbk); (have a4 := X8.out.2.1.d5.2.2.2.2.1); (have F8 := fun o9 => (X8.out.below ((Below.refl _ _).alloc (Nat.le_refl _) o9)).2.1.d5.2.2.2.2.1); clear hO hb hg hgB hgA hbk; (try (go_wp2_with fail)))
                    refine hK.out _ _ ?_ (fun hH2 => ?_)
                    · first | exact HS.out _ _ XS.out | exact HS.out _ _ X9.out | exact HS.out _ _ XL.out | exact HS.out _ _ X8.out | exact HS.out _ _ XD.out
                    clear hK K hH1
                    (try simp only [Act.put, List.setIfInBounds_toArray, List.set_cons_zero, List.set_cons_succ])
                    refine wpAnyH_take (i := 15) (v := ?_) rfl (by kernel_rfl) (by kernel_rfl) (by kernel_rfl) (fun _ _ _ h => h) (Or.inl ⟨by rfl, ?_⟩) hH2 ?_
                    rotate_left
                    · intro w hSw; (try dsimp only at hSw); go_simp; (try with_reducible rfl)
                    simp only [Act.put, List.setIfInBounds_toArray, List.set_cons_zero, List.set_cons_succ]
                    refine wpAnyH_ready (rs := [16]) (by kernel_rfl) (by simp) ?_
                    refine AllReadyH.cons rfl (fun K hK => ?_) ?_
                    · go_simp
                      refine hK.out _ _ ?_ (fun hH3 => ?_)
                      · first | exact HS.out _ _ XS.out | exact HS.out _ _ X9.out | exact HS.out _ _ XL.out | exact HS.out _ _ X8.out | exact HS.out _ _ XD.out
                      clear hK K hH2
                      (try simp only [Act.put, List.setIfInBounds_toArray, List.set_cons_zero, List.set_cons_succ])
                      refine wpAnyH_ready (rs := [17]) (by kernel_rfl) (by simp) ?_
                      refine AllReadyH.cons rfl (fun K hK => ?_) ?_
                      · (refine step_append_dat _ rfl _ _ 27 rfl 13 (by omega) 114 i4 _ 128 Try.underlying27 hj4 hx4 hy4 rfl hz4 0 A' i c' (L4.take i) Bg rfl HG.out (some ⟨w8.heap.size, 0, none⟩) 1 1 [.r [.i g0, .r [.i g1_0, .i g1_1, .i g1_2, .i g1_3, .s g1_4, .l M1_5, .r [.i g1_6_0, .i g1_6_1], .i g1_7, .r [.i g1_8_0, .i g1_8_1, .i g1_8_2]]]] (rng wr.drew.heap.size w8.heap.size) rfl (Src.lit rfl (by rw [Owns]; exact OwnsAll.consF (c1 := [.int .i64 g0]) (d := .i g0) rfl (OwnsAll.one_ HO.out)) rfl (fun b hb => hb.2)) (fun b hb hb2 => by have h1 := (HGB.out b hb).2; have h2 := hb2.1; omega) (fun a e hb2 => by have h1 := (HGA.out a e).2; have h2 := hb2.1; omega) (by unfold maxLen; omega) (by omega) (Nat.zero_le _) ?_; intro A9 c9 w9 hG9 hT9 hA9; (have VX9 := Lib.hid (HBK.out w9 A9 _ c9 _ _ hG9 hT9 hA9 (fun b hb => hb.1))); (have X9 := Lib.hid (CpB.touch XL.out hT9 (fun b ⟨a, e, hb⟩ => by rw [hb]; exact (HGA.out a e).1))); (have XS := Lib.hid (CpB.put X9.out 4 (.slice A9 (i + 1) c9))); clear hG9 hT9 hA9; (obtain ⟨v0, v1, v2, v3, v4, fv⟩ := X9.out.2.1.d5))
                        refine hK.out _ _ ?_ (fun hH4 => ?_)
                        · first | exact HS.out _ _ XS.out | exact HS.out _ _ X9.out | exact HS.out _ _ XL.out | exact HS.out _ _ X8.out | exact HS.out _ _ XD.out
                        clear hK K hH3
                        (try simp only [Act.put, List.setIfInBounds_toArray, List.set_cons_zero, List.set_cons_succ])
                        refine wpAnyH_take (i := 18) (v := ?_) rfl (by kernel_rfl) (by kernel_rfl) (by kernel_rfl) (fun _ _ _ h => h) (Or.inl ⟨by rfl, ?_⟩) hH4 ?_
                        rotate_left
                        · intro w hSw; (try dsimp only at hSw); go_simp; (try with_reducible rfl)
                        simp only [Act.put, List.setIfInBounds_toArray, List.set_cons_zero, List.set_cons_succ]
                        refine wpAnyH_ready (rs := [19]) (by kernel_rfl) (by simp) ?_
                        refine AllReadyH.cons rfl (fun K hK => ?_) ?_
                        · go_simp
                          refine hK.out _ _ ?_ (fun hH5 => ?_)
                          · first | exact HS.out _ _ XS.out | exact HS.out _ _ X9.out | exact HS.out _ _ XL.out | exact HS.out _ _ X8.out | exact HS.out _ _ XD.out
                          clear hK K hH4
                          (try simp only [Act.put, List.setIfInBounds_toArray, List.set_cons_zero, List.set_cons_succ])
                          refine wpAnyH_done (by kernel_rfl) ?_ _
                          go_wp2_with fail
                          go_roundw
                          case rel => exact ⟨i + 1, A9, c9, by omega, by go_num, X9.out.put 4 _, by rw [List.take_add_one, HZ.out]; exact ((VX9.out.mono (fun b hb => hb.elim id (fun h => ⟨by simp only [World.size_drew] at h; omega, by simp only [World.size_drew] at h; omega⟩))).touch (S := fun b => b = o) ((Touch.refl (fun b => b = o) w9).setCell (p := ⟨o, 4, none⟩) rfl _) (fun b hb e => hb.2 e))⟩
                          case measure => (simp [intOf]; omega)
                        exact AllReadyH.nil
                      exact AllReadyH.nil
                    exact AllReadyH.nil
                  exact AllReadyH.nil
                refine AllReadyH.cons rfl (fun K hK => ?_) ?_
                · (go_simp; go_at_call 154; (with_reducible refine (specCopM g1_0 g1_1 g1_2 g1_3 g1_4 M1_5 D1_5 m1_5 j1_5 g1_6_0 g1_6_1 g1_7 g1_8_0 g1_8_1 g1_8_2 _ HE1_5.out HF1_5.out hu1_5).mono ?_); rintro e w8 ⟨Q1_5, t1_5, rfl, hO, hb⟩; (have HO := Lib.hid hO); (have X8 := Lib.hid (CpB.below XD.out hb)); (have XL := Lib.hid (CpB.below X8.out ((Below.refl _ _).alloc (Nat.le_refl _) (.cells #[.int .i64 g0, .int .i64 g1_0, .int .i64 g1_1, .int .i64 g1_2, .int .i64 g1_3, .string g1_4, .slice Q1_5 m1_5 t1_5, .int .i64 g1_6_0, .int .i64 g1_6_1, .int .i64 g1_7, .int .i64 g1_8_0, .int .i64 g1_8_1, .int .i64 g1_8_2] 114)))); (obtain ⟨Bg, hg, hgB, hgA, hbk⟩ := VXD.out.app4 (hb.alloc hb.size (.cells #[.int .i64 g0, .int .i64 g1_0, .int .i64 g1_1, .int .i64 g1_2, .int .i64 g1_3, .string g1_4, .slice Q1_5 m1_5 t1_5, .int .i64 g1_6_0, .int .i64 g1_6_1, .int .i64 g1_7, .int .i64 g1_8_0, .int .i64 g1_8_1, .int .i64 g1_8_2] 114))); (have HG := Lib.hid hg); (have HGB := Lib.hid hgB); (have HGA := Lib.hid hgA); (have HBK := Lib.hid hbk); (have a4 := X8.out.2.1.d5.2.2.2.2.1); (have F8 := fun o9 => (X8.out.below ((Below.refl _ _).alloc (Nat.le_refl _) o9)).2.1.d5.2.2.2.2.1); clear hO hb hg hgB hgA hbk; (try (go_wp2_with fail)))
                  refine hK.out _ _ ?_ (fun hH6 => ?_)
                  · first | exact HS.out _ _ XS.out | exact HS.out _ _ X9.out | exact HS.out _ _ XL.out | exact HS.out _ _ X8.out | exact HS.out _ _ XD.out
                  clear hK K hH0
                  (try simp only [Act.put, List.setIfInBounds_toArray, List.set_cons_zero, List.set_cons_succ])
                  refine wpAnyH_take (i := 15) (v := ?_) rfl (by kernel_rfl) (by kernel_rfl) (by kernel_rfl) (fun _ _ _ h => h) (Or.inl ⟨by rfl, ?_⟩) hH6 ?_
                  rotate_left
                  · intro w hSw; (try dsimp only at hSw); go_simp; (try with_reducible rfl)
                  simp only [Act.put, List.setIfInBounds_toArray, List.set_cons_zero, List.set_cons_succ]
                  refine wpAnyH_ready (rs := [1, 16]) (by kernel_rfl) (by simp) ?_
                  refine AllReadyH.cons rfl (fun K hK => ?_) ?_
                  · go_simp
                    refine hK.out _ _ ?_ (fun hH7 => ?_)
                    · first | exact HS.out _ _ XS.out | exact HS.out _ _ X9.out | exact HS.out _ _ XL.out | exact HS.out _ _ X8.out | exact HS.out _ _ XD.out
                    clear hK K hH6
                    (try simp only [Act.put, List.setIfInBounds_toArray, List.set_cons_zero, List.set_cons_succ])
                    refine wpAnyH_ready (rs := [16]) (by kernel_rfl) (by simp) ?_
                    refine AllReadyH.cons rfl (fun K hK => ?_) ?_
                    · go_simp
                      refine hK.out _ _ ?_ (fun hH8 => ?_)
                      · first | exact HS.out _ _ XS.out | exact HS.out _ _ X9.out | exact HS.out _ _ XL.out | exact HS.out _ _ X8.out | exact HS.out _ _ XD.out
                      clear hK K hH7
                      (try simp only [Act.put, List.setIfInBounds_toArray, List.set_cons_zero, List.set_cons_succ])
                      refine wpAnyH_ready (rs := [17]) (by kernel_rfl) (by simp) ?_
                      refine AllReadyH.cons rfl (fun K hK => ?_) ?_
                      · (refine step_append_dat _ rfl _ _ 27 rfl 13 (by omega) 114 i4 _ 128 Try.underlying27 hj4 hx4 hy4 rfl hz4 0 A' i c' (L4.take i) Bg rfl HG.out (some ⟨w8.heap.size, 0, none⟩) 1 1 [.r [.i g0, .r [.i g1_0, .i g1_1, .i g1_2, .i g1_3, .s g1_4, .l M1_5, .r [.i g1_6_0, .i g1_6_1], .i g1_7, .r [.i g1_8_0, .i g1_8_1, .i g1_8_2]]]] (rng wr.drew.heap.size w8.heap.size) rfl (Src.lit rfl (by rw [Owns]; exact OwnsAll.consF (c1 := [.int .i64 g0]) (d := .i g0) rfl (OwnsAll.one_ HO.out)) rfl (fun b hb => hb.2)) (fun b hb hb2 => by have h1 := (HGB.out b hb).2; have h2 := hb2.1; omega) (fun a e hb2 => by have h1 := (HGA.out a e).2; have h2 := hb2.1; omega) (by unfold maxLen; omega) (by omega) (Nat.zero_le _) ?_; intro A9 c9 w9 hG9 hT9 hA9; (have VX9 := Lib.hid (HBK.out w9 A9 _ c9 _ _ hG9 hT9 hA9 (fun b hb => hb.1))); (have X9 := Lib.hid (CpB.touch XL.out hT9 (fun b ⟨a, e, hb⟩ => by rw [hb]; exact (HGA.out a e).1))); (have XS := Lib.hid (CpB.put X9.out 4 (.slice A9 (i + 1) c9))); clear hG9 hT9 hA9; (obtain ⟨v0, v1, v2, v3, v4, fv⟩ := X9.out.2.1.d5))
                        refine hK.out _ _ ?_ (fun hH9 => ?_)
                        · first | exact HS.out _ _ XS.out | exact HS.out _ _ X9.out | exact HS.out _ _ XL.out | exact HS.out _ _ X8.out | exact HS.out _ _ XD.out
                        clear hK K hH8
                        (try simp only [Act.put, List.setIfInBounds_toArray, List.set_cons_zero, List.set_cons_succ])
                        refine wpAnyH_take (i := 18) (v := ?_) rfl (by kernel_rfl) (by kernel_rfl) (by kernel_rfl) (fun _ _ _ h => h) (Or.inl ⟨by rfl, ?_⟩) hH9 ?_
                        rotate_left
                        · intro w hSw; (try dsimp only at hSw); go_simp; (try with_reducible rfl)
                        simp only [Act.put, List.setIfInBounds_toArray, List.set_cons_zero, List.set_cons_succ]
                        refine wpAnyH_ready (rs := [19]) (by kernel_rfl) (by simp) ?_
                        refine AllReadyH.cons rfl (fun K hK => ?_) ?_
                        · go_simp
                          refine hK.out _ _ ?_ (fun hH10 => ?_)
                          · first | exact HS.out _ _ XS.out | exact HS.out _ _ X9.out | exact HS.out _ _ XL.out | exact HS.out _ _ X8.out | exact HS.out _ _ XD.out
                          clear hK K hH9
                          (try simp only [Act.put, List.setIfInBounds_toArray, List.set_cons_zero, List.set_cons_succ])
                          refine wpAnyH_done (by kernel_rfl) ?_ _
                          go_wp2_with fail
                          go_roundw
                          case rel => exact ⟨i + 1, A9, c9, by omega, by go_num, X9.out.put 4 _, by rw [List.take_add_one, HZ.out]; exact ((VX9.out.mono (fun b hb => hb.elim id (fun h => ⟨by simp only [World.size_drew] at h; omega, by simp only [World.size_drew] at h; omega⟩))).touch (S := fun b => b = o) ((Touch.refl (fun b => b = o) w9).setCell (p := ⟨o, 4, none⟩) rfl _) (fun b hb e => hb.2 e))⟩
                          case measure => (simp [intOf]; omega)
                        exact AllReadyH.nil
                      exact AllReadyH.nil
                    exact AllReadyH.nil
                  refine AllReadyH.cons rfl (fun K hK => ?_) ?_
                  · go_simp
                    refine hK.out _ _ ?_ (fun hH11 => ?_)
                    · first | exact HS.out _ _ XS.out | exact HS.out _ _ X9.out | exact HS.out _ _ XL.out | exact HS.out _ _ X8.out | exact HS.out _ _ XD.out
                    clear hK K hH6
                    (try simp only [Act.put, List.setIfInBounds_toArray, List.set_cons_zero, List.set_cons_succ])
                    refine wpAnyH_ready (rs := [1]) (by kernel_rfl) (by simp) ?_
                    refine AllReadyH.cons rfl (fun K hK => ?_) ?_
                    · go_simp
                      refine hK.out _ _ ?_ (fun hH12 => ?_)
                      · first | exact HS.out _ _ XS.out | exact HS.out _ _ X9.out | exact HS.out _ _ XL.out | exact HS.out _ _ X8.out | exact HS.out _ _ XD.out
                      clear hK K hH11
                      (try simp only [Act.put, List.setIfInBounds_toArray, List.set_cons_zero, List.set_cons_succ])
                      refine wpAnyH_ready (rs := [17]) (by kernel_rfl) (by simp) ?_
                      refine AllReadyH.cons rfl (fun K hK => ?_) ?_
                      · (refine step_append_dat _ rfl _ _ 27 rfl 13 (by omega) 114 i4 _ 128 Try.underlying27 hj4 hx4 hy4 rfl hz4 0 A' i c' (L4.take i) Bg rfl HG.out (some ⟨w8.heap.size, 0, none⟩) 1 1 [.r [.i g0, .r [.i g1_0, .i g1_1, .i g1_2, .i g1_3, .s g1_4, .l M1_5, .r [.i g1_6_0, .i g1_6_1], .i g1_7, .r [.i g1_8_0, .i g1_8_1, .i g1_8_2]]]] (rng wr.drew.heap.size w8.heap.size) rfl (Src.lit rfl (by rw [Owns]; exact OwnsAll.consF (c1 := [.int .i64 g0]) (d := .i g0) rfl (OwnsAll.one_ HO.out)) rfl (fun b hb => hb.2)) (fun b hb hb2 => by have h1 := (HGB.out b hb).2; have h2 := hb2.1; omega) (fun a e hb2 => by have h1 := (HGA.out a e).2; have h2 := hb2.1; omega) (by unfold maxLen; omega) (by omega) (Nat.zero_le _) ?_; intro A9 c9 w9 hG9 hT9 hA9; (have VX9 := Lib.hid (HBK.out w9 A9 _ c9 _ _ hG9 hT9 hA9 (fun b hb => hb.1))); (have X9 := Lib.hid (CpB.touch XL.out hT9 (fun b ⟨a, e, hb⟩ => by rw [hb]; exact (HGA.out a e).1))); (have XS := Lib.hid (CpB.put X9.out 4 (.slice A9 (i + 1) c9))); clear hG9 hT9 hA9; (obtain ⟨v0, v1, v2, v3, v4, fv⟩ := X9.out.2.1.d5))
                        refine hK.out _ _ ?_ (fun hH13 => ?_)
                        · first | exact HS.out _ _ XS.out | exact HS.out _ _ X9.out | exact HS.out _ _ XL.out | exact HS.out _ _ X8.out | exact HS.out _ _ XD.out
                        clear hK K hH12
                        (try simp only [Act.put, List.setIfInBounds_toArray, List.set_cons_zero, List.set_cons_succ])
                        refine wpAnyH_take (i := 18) (v := ?_) rfl (by kernel_rfl) (by kernel_rfl) (by kernel_rfl) (fun _ _ _ h => h) (Or.inl ⟨by rfl, ?_⟩) hH13 ?_
                        rotate_left
                        · intro w hSw; (try dsimp only at hSw); go_simp; (try with_reducible rfl)
                        simp only [Act.put, List.setIfInBounds_toArray, List.set_cons_zero, List.set_cons_succ]
                        refine wpAnyH_ready (rs := [19]) (by kernel_rfl) (by simp) ?_
                        refine AllReadyH.cons rfl (fun K hK => ?_) ?_
                        · go_simp
                          refine hK.out _ _ ?_ (fun hH14 => ?_)
                          · first | exact HS.out _ _ XS.out | exact HS.out _ _ X9.out | exact HS.out _ _ XL.out | exact HS.out _ _ X8.out | exact HS.out _ _ XD.out
                          clear hK K hH13
                          (try simp only [Act.put, List.setIfInBounds_toArray, List.set_cons_zero, List.set_cons_succ])
                          refine wpAnyH_done (by kernel_rfl) ?_ _
                          go_wp2_with fail
                          go_roundw
                          case rel => exact ⟨i + 1, A9, c9, by omega, by go_num, X9.out.put 4 _, by rw [List.take_add_one, HZ.out]; exact ((VX9.out.mono (fun b hb => hb.elim id (fun h => ⟨by simp only [World.size_drew] at h; omega, by simp only [World.size_drew] at h; omega⟩))).touch (S := fun b => b = o) ((Touch.refl (fun b => b = o) w9).setCell (p := ⟨o, 4, none⟩) rfl _) (fun b hb e => hb.2 e))⟩
                          case measure => (simp [intOf]; omega)
                        exact AllReadyH.nil
                      exact AllReadyH.nil
                    exact AllReadyH.nil
                  exact AllReadyH.nil
                exact AllReadyH.nil
              · obtain rfl : n4 = i := by omega
                have hV := VX.out
                rw [List.take_of_length_le (by have h1 := HC4.out; omega)] at hV
                clear VX
                have VX := Lib.hid hV
                clear hV
                obtain ⟨z0, z1, z2, z3, z4, fz⟩ := X.out.1.2.1.d5
                obtain ⟨y0, y1, y2, y3, y4, fy⟩ := X.out.2.1.d5
                obtain ⟨q0, q1, q2, q3, q4, fq⟩ := X.out.1.2.2.1.d5
                have hlo := X.out.lt
                have hlo2 := X.out.2.2
                go_wp2_with fail
                refine bodyPost_ret (v := .agg #[.int .i64 f0, .slice B1 n1 k1, .slice B2 n2 k2, .slice B3 n3 k3, .slice A' n4 c']) ?hres rfl ?hpost
                case hres => exact results_box rfl _ _ (w.heap.size + 1) [.int .i64 f0, .slice B1 n1 k1, .slice B2 n2 k2, .slice B3 n3 k3, .slice A' n4 c'] _ rfl (((((X.out.1.2.2.1.1.put 0 _).put 1 _).put 2 _).put 3 _).put 4 _) Try.underlying29 rfl (by kernel_rfl)
                case hpost =>
                  suffices h9 : ∀ w' : World, Touch (fun b => b = w.heap.size + 1) wr w' → GivesVt f0 L1 n1 L2 n2 L3 n3 L4 n4 w (.returned (.agg #[.int .i64 f0, .slice B1 n1 k1, .slice B2 n2 k2, .slice B3 n3 k3, .slice A' n4 c'])) w' from h9 _ ((((((Touch.refl (fun b => b = w.heap.size + 1) wr).setCell (p := ⟨w.heap.size + 1, 0, none⟩) rfl _).setCell (p := ⟨w.heap.size + 1, 1, none⟩) rfl _).setCell (p := ⟨w.heap.size + 1, 2, none⟩) rfl _).setCell (p := ⟨w.heap.size + 1, 3, none⟩) rfl _).setCell (p := ⟨w.heap.size + 1, 4, none⟩) rfl _)
                  intro w' hT
                  exact ⟨B1, k1, B2, k2, B3, k3, A', c', rfl, ((VX.out.touch hT (fun b hb e => by have h1 := hb.1; omega)).mono (P' := fun b => w.heap.size ≤ b) (fun b hb => by have h1 := hb.1; omega)).rng, X.out.1.1.trans (hT.below (fun b e => by omega) X.out.1.1.size)⟩
end Go.Proofs.Ytmeacgpebpfpbaa
end
