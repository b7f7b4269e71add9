/- Chapter 9: a message's copy. Chapter 9: messages' copies. Chapter 9: an entity's copy. Chapter 12: entities' copies. -/
import Derived.Test.YtmeacgpebpfpbaaHold
import Derived.Test.YtmeacgpebpfpbaaTyE1
import Derived.Deep.RegionHeld3
import Derived.Deep.RegionLaw
import Derived.Deep.Cut
import Derived.Deep.CutRange
import Derived.LoopTactic
import Derived.Lib.Hide
import Derived.Deep.QuietTactic
import Derived.BigQuiet
import Derived.Deep.RegionWith
import Derived.Handy
import Derived.Test.YtmeacgpebpfpbaaTyV1
section
namespace Go.Proofs.Ytmeacgpebpfpbaa
open Go.RowKit
set_option linter.unusedVariables false
set_option linter.unusedSimpArgs false
def CopSent (f0 : Int) (f1 : ByteArray) (L2 : List Dat) (n2 : Nat) (f3 : Int) (f4_0 : Int) (f4_1 : Int) (f4_2 : Int) (w : World) (e : Ending) (w' : World) : Prop := ∃ (B2 : Option Addr) (k2 : Nat), e = .returned (.agg #[.int .i64 f0, .string f1, .slice B2 n2 k2, .int .i64 f3, .int .i64 f4_0, .int .i64 f4_1, .int .i64 f4_2]) ∧ Owns w' (.r [.i f0, .s f1, .l L2, .i f3, .r [.i f4_0, .i f4_1, .i f4_2]]) [.int .i64 f0, .string f1, .slice B2 n2 k2, .int .i64 f3, .int .i64 f4_0, .int .i64 f4_1, .int .i64 f4_2] (rng w.heap.size w'.heap.size) ∧ Below w.heap.size w w'
set_option maxRecDepth 100000 in
set_option maxHeartbeats 16000000 in
theorem implCopS (f0 : Int) (f1 : ByteArray) (L2 : List Dat) (A2 : Option Addr) (n2 c2 : Nat) (f3 : Int) (f4_0 : Int) (f4_1 : Int) (f4_2 : Int) (w : World) (hl2 : Lies w (.l L2) [.slice A2 n2 c2]) (ht2 : ∀ x ∈ L2, Has tyValue x) (hq2 : (Dat.l L2).bulk ≤ 549755813888) :
    Calls Try.prog 119 #[.agg #[.int .i64 f0, .string f1, .slice A2 n2 c2, .int .i64 f3, .int .i64 f4_0, .int .i64 f4_1, .int .i64 f4_2]] w (CopSent f0 f1 L2 n2 f3 f4_0 f4_1 f4_2 w) := by
  obtain ⟨i0, hi0, hx0, hy0, hz0⟩ := info_parts infoValue
  have hn2 : n2 ≤ 1099511627776 := by have h1 := hl2.count; simp only [Dat.bulk] at hq2; omega
  have HL2 := Lib.hid hl2
  have HT2 := Lib.hid ht2
  clear hl2 ht2
  have HB : Hid (Below w.heap.size w w) := Lib.hid (Below.refl _ _)
  have Zl : Hid (Zx (w.heap.size) [.int .i64 f0, .string f1, .slice A2 n2 c2, .int .i64 f3, .int .i64 f4_0, .int .i64 f4_1, .int .i64 f4_2] (w.alloc (.cells #[.int .i64 f0, .string f1, .slice A2 n2 c2, .int .i64 f3, .int .i64 f4_0, .int .i64 f4_1, .int .i64 f4_2] 153))) := Lib.hid (Zx.new _ _ _)
  replace HB : Hid (Below w.heap.size w (w.alloc (.cells #[.int .i64 f0, .string f1, .slice A2 n2 c2, .int .i64 f3, .int .i64 f4_0, .int .i64 f4_1, .int .i64 f4_2] 153))) := Lib.hid (HB.out.alloc HB.out.size _)
  replace Zl : Hid (Zx (w.heap.size) [.int .i64 f0, .string f1, .slice A2 n2 c2, .int .i64 f3, .int .i64 f4_0, .int .i64 f4_1, .int .i64 f4_2] ((w.alloc (.cells #[.int .i64 f0, .string f1, .slice A2 n2 c2, .int .i64 f3, .int .i64 f4_0, .int .i64 f4_1, .int .i64 f4_2] 153)).alloc (.cells #[.int .i64 0, .string ⟨#[]⟩, .slice none 0 0, .int .i64 0, .int .i64 0, .int .i64 0, .int .i64 0] 153))) := Lib.hid (Zl.out.below ((Below.refl _ _).alloc (Nat.le_refl _) _))
  have Zr : Hid (Zx (w.heap.size + 1) [.int .i64 0, .string ⟨#[]⟩, .slice none 0 0, .int .i64 0, .int .i64 0, .int .i64 0, .int .i64 0] ((w.alloc (.cells #[.int .i64 f0, .string f1, .slice A2 n2 c2, .int .i64 f3, .int .i64 f4_0, .int .i64 f4_1, .int .i64 f4_2] 153)).alloc (.cells #[.int .i64 0, .string ⟨#[]⟩, .slice none 0 0, .int .i64 0, .int .i64 0, .int .i64 0, .int .i64 0] 153))) := Lib.hid (by have h1 := Zx.new (w.alloc (.cells #[.int .i64 f0, .string f1, .slice A2 n2 c2, .int .i64 f3, .int .i64 f4_0, .int .i64 f4_1, .int .i64 f4_2] 153)) #[.int .i64 0, .string ⟨#[]⟩, .slice none 0 0, .int .i64 0, .int .i64 0, .int .i64 0, .int .i64 0] 153; (try simp only [World.size_alloc, World.size_setCell] at h1); exact h1)
  replace HB : Hid (Below w.heap.size w ((w.alloc (.cells #[.int .i64 f0, .string f1, .slice A2 n2 c2, .int .i64 f3, .int .i64 f4_0, .int .i64 f4_1, .int .i64 f4_2] 153)).alloc (.cells #[.int .i64 0, .string ⟨#[]⟩, .slice none 0 0, .int .i64 0, .int .i64 0, .int .i64 0, .int .i64 0] 153))) := Lib.hid (HB.out.alloc HB.out.size _)
  go_enter Try.func119, Try.ntmps119
  have GL : Hid (Grow 31 2 (w.heap.size + 1 + 1) (((w.alloc (.cells #[.int .i64 f0, .string f1, .slice A2 n2 c2, .int .i64 f3, .int .i64 f4_0, .int .i64 f4_1, .int .i64 f4_2] 153)).alloc (.cells #[.int .i64 0, .string ⟨#[]⟩, .slice none 0 0, .int .i64 0, .int .i64 0, .int .i64 0, .int .i64 0] 153)).alloc (.cells #[] 31)) (some ⟨w.heap.size + 1 + 1, 0, none⟩) 0 0 [] (fun _ => False)) := Lib.hid (by have h1 := Grow.lit9 31 2 ((w.alloc (.cells #[.int .i64 f0, .string f1, .slice A2 n2 c2, .int .i64 f3, .int .i64 f4_0, .int .i64 f4_1, .int .i64 f4_2] 153)).alloc (.cells #[.int .i64 0, .string ⟨#[]⟩, .slice none 0 0, .int .i64 0, .int .i64 0, .int .i64 0, .int .i64 0] 153)); (try simp only [World.size_alloc, World.size_setCell] at h1); exact h1)
  have BL : Hid (Below w.heap.size w (((w.alloc (.cells #[.int .i64 f0, .string f1, .slice A2 n2 c2, .int .i64 f3, .int .i64 f4_0, .int .i64 f4_1, .int .i64 f4_2] 153)).alloc (.cells #[.int .i64 0, .string ⟨#[]⟩, .slice none 0 0, .int .i64 0, .int .i64 0, .int .i64 0, .int .i64 0] 153)).alloc (.cells #[] 31))) := Lib.hid (HB.out.alloc HB.out.size _)
  obtain ⟨yl0, yl1, yl2, yl3, yl4, yl5, yl6, fyl⟩ := (Zl.out.below ((Below.refl _ _).alloc (Nat.le_refl _) (.cells #[] 31))).d7
  obtain ⟨yr0, yr1, yr2, yr3, yr4, yr5, yr6, fyr⟩ := (Zr.out.below ((Below.refl _ _).alloc (Nat.le_refl _) (.cells #[] 31))).d7
  go_wp2_with (first
    | (refine wpList_append_dat _ rfl _ _ 35 rfl 2 (by omega) 31 i0 _ 16 Try.underlying35 hi0 hx0 hy0 rfl hz0 (w.heap.size + 1 + 1) _ 0 0 [] _ rfl GL.out A2 n2 c2 L2 (fun _ => False) rfl (Src.of_lies (HL2.out.below BL.out) (fun x hx => (HT2.out x hx).width) (fun x hx => Has.flat rfl (HT2.out x hx))) (fun b h => h.elim) (fun a e h => h) (by unfold maxLen; omega) (by omega) (by first | (simp; done) | (simp only [World.size_alloc, World.size_setCell]; omega)) ?_; intro B2 k2 w1 hG hT hA; have hb := Touch.fresh12 hT rfl (by first | (simp; done) | (simp only [World.size_alloc, World.size_setCell]; omega)); clear hT hA; clear GL BL yl0 yl1 yl2 yl3 yl4 yl5 yl6 yr0 yr1 yr2 yr3 yr4 yr5 yr6 fyl fyr; replace Zl : Hid (Zx (w.heap.size) [.int .i64 f0, .string f1, .slice A2 n2 c2, .int .i64 f3, .int .i64 f4_0, .int .i64 f4_1, .int .i64 f4_2] w1) := Lib.hid (Zl.out.below hb); replace Zr : Hid (Zx (w.heap.size + 1) [.int .i64 0, .string ⟨#[]⟩, .slice none 0 0, .int .i64 0, .int .i64 0, .int .i64 0, .int .i64 0] w1) := Lib.hid (Zr.out.below hb); replace HB : Hid (Below w.heap.size w w1) := Lib.hid (HB.out.trans (hb.mono HB.out.size)); have hsw1 : w.heap.size + 1 + 1 ≤ w1.heap.size := (by have h1 := hb.size; (try simp only [World.size_alloc, World.size_setCell] at h1); exact h1); have O2 : Hid (Owns w1 (.l L2) [.slice B2 n2 k2] (rng (w.heap.size + 1 + 1) (w1.heap.size))) := Lib.hid hG.rngO; clear hG hb; obtain ⟨zl0, zl1, zl2, zl3, zl4, zl5, zl6, fl⟩ := Zl.out.d7; obtain ⟨zr0, zr1, zr2, zr3, zr4, zr5, zr6, fr⟩ := Zr.out.d7)
    | fail)
  refine bodyPost_ret (v := .agg #[.int .i64 f0, .string f1, .slice B2 n2 k2, .int .i64 f3, .int .i64 f4_0, .int .i64 f4_1, .int .i64 f4_2]) ?hres rfl ?hpost
  case hres => exact results_box rfl _ _ (w.heap.size + 1) [.int .i64 f0, .string f1, .slice B2 n2 k2, .int .i64 f3, .int .i64 f4_0, .int .i64 f4_1, .int .i64 f4_2] _ rfl ((((((((Zr.out.1.far (by omega) _).put 0 _).put 1 _).put 2 _).put 3 _).put 4 _).put 5 _).put 6 _) Try.underlying153 rfl (by kernel_rfl)
  case hpost =>
    have l1 : w.heap.size ≤ w.heap.size + 1 := by omega
    have l2 : w.heap.size ≤ w.heap.size := by omega
    suffices h9 : ∀ w' : World, Touch (fun b => b = w.heap.size + 1 ∨ b = w.heap.size) w1 w' → Below w.heap.size w w' → CopSent f0 f1 L2 n2 f3 f4_0 f4_1 f4_2 w (.returned (.agg #[.int .i64 f0, .string f1, .slice B2 n2 k2, .int .i64 f3, .int .i64 f4_0, .int .i64 f4_1, .int .i64 f4_2])) w' from h9 _ (((((((((Touch.refl (fun b => b = w.heap.size + 1 ∨ b = w.heap.size) w1).setCell (Or.inr rfl) _).setCell (Or.inl rfl) _).setCell (Or.inl rfl) _).setCell (Or.inl rfl) _).setCell (Or.inl rfl) _).setCell (Or.inl rfl) _).setCell (Or.inl rfl) _).setCell (Or.inl rfl) _) ((((((((HB.out.setCell l2 _).setCell l1 _).setCell l1 _).setCell l1 _).setCell l1 _).setCell l1 _).setCell l1 _).setCell l1 _)
    intro w' hT9 hB9
    have hs9 := hT9.size
    exact ⟨B2, k2, rfl, ownSent ((O2.out.touch hT9 (fun b hb hS => by have h1 := hb.1; rcases hS with h | h <;> omega)).mono (B' := rng (w.heap.size) (w'.heap.size)) (fun b hb => ⟨by have h1 := hb.1; omega, by have h1 := hb.2; omega⟩)) (by omega), hB9⟩
end Go.Proofs.Ytmeacgpebpfpbaa
end
section
namespace Go.Proofs.Ytmeacgpebpfpbaa
open Go.RowKit
set_option linter.unusedVariables false
set_option linter.unusedSimpArgs false
set_option maxRecDepth 100000 in
set_option maxHeartbeats 16000000 in
theorem eachSent (L : List Dat) (A : Option Addr) (n c : Nat) (w : World) (h : Lies w (.l L) [.slice A n c]) (ht : ∀ x ∈ L, Has tySent x) (hq : (Dat.l L).bulk ≤ 549755813888) :
    Calls Try.prog 118 #[.slice A n c, .func (.func 119) #[] #[]] w (GrewD 153 7 L w) := by
  obtain ⟨i1, hj, hy0, hy1, hy2⟩ := info_parts infoSent
  have hn : n ≤ 549755813888 := by have := h.count; simp only [Dat.bulk] at hq; omega
  have hn2s : ∀ x ∈ L, x.bulk ≤ 549755813888 := fun x hx => by have h1 := bulk_mem hx; simp only [Dat.bulk] at hq; omega
  have H := Lib.hid h
  have HT := Lib.hid ht
  have HC := Lib.hid h.count
  have HN2 := Lib.hid hn2s
  clear h ht hq hn2s
  go_enter Try.func118, Try.ntmps118
  go_wp2_with (refine wpList_make_own _ rfl _ _ 25 rfl w.heap.size 153 i1 _ 7 Try.underlying25 hj hy0 hy1 _ _ (n : Int) n rfl rfl rfl (by rw [hy2]; omega) (by unfold maxLen; omega) (Nat.le_refl _) ?_)
  intro w0 hown hgrow
  have G0 := Lib.hid (Grow.made0 hown)
  have B0 : Hid (Below w.heap.size w w0) := Lib.hid ((Below.refl w.heap.size w).grown hgrow (Nat.le_refl _) (fun k h => by cases h))
  clear hown hgrow
  go_wp2
  go_loopw [5, 13] (fun ov iv wr => ∃ (i : Nat) (A' : Option Addr) (c' : Nat) (Bs : Nat → Prop), i ≤ n ∧ iv = .int .i64 i ∧ ov = .slice A' i c' ∧ Grow 153 7 w.heap.size wr A' i c' (L.take i) Bs ∧ (∀ b, Bs b → w.heap.size ≤ b ∧ b < wr.heap.size) ∧ Below w.heap.size w wr) (fun _ iv _ => n - (intOf iv).toNat)
  case atStart => exact ⟨0, _, _, _, Nat.zero_le _, rfl, rfl, G0.out, (fun b hb => hb.elim), B0.out⟩
  case round =>
    obtain ⟨i, A', c', Bs, hin, rfl, rfl, hG, hBs, hb⟩ := hrel
    clear G0 B0
    by_cases hlt : i < n
    · obtain ⟨b, off, d, xs, rfl, hbw, hzi, hlie, hlen, hcell⟩ := (H.out.below hb).elem (fun x hx => (HT.out x hx).width) hlt
      have hdbig := HN2.out d (List.mem_of_getElem? hzi)
      obtain ⟨f0, f1, L2, A2, n2, c2, f3, f4_0, f4_1, f4_2, rfl, rfl, -, hl2, ht2, -⟩ := invSent (HT.out d (List.mem_of_getElem? hzi)) hlie
      have r0 : wr.cell? ⟨b, off + i * 7, none⟩ = some (.int .i64 f0) := hcell 0 _ rfl
      have r1 : wr.cell? ⟨b, off + i * 7 + 1, none⟩ = some (.string f1) := hcell 1 _ rfl
      have r2 : wr.cell? ⟨b, off + i * 7 + 2, none⟩ = some (.slice A2 n2 c2) := hcell 2 _ rfl
      have r3 : wr.cell? ⟨b, off + i * 7 + 3, none⟩ = some (.int .i64 f3) := hcell 3 _ rfl
      have r4 : wr.cell? ⟨b, off + i * 7 + 4, none⟩ = some (.int .i64 f4_0) := hcell 4 _ rfl
      have r5 : wr.cell? ⟨b, off + i * 7 + 5, none⟩ = some (.int .i64 f4_1) := hcell 5 _ rfl
      have r6 : wr.cell? ⟨b, off + i * 7 + 6, none⟩ = some (.int .i64 f4_2) := hcell 6 _ rfl
      have hq2 : (Dat.l L2).bulk ≤ 549755813888 := by have h1 := hdbig; simp only [Dat.bulk, bulkAll] at h1 ⊢; omega
      have hA' : ∀ a, A' = some a → w.heap.size ≤ a.block ∧ a.block < wr.heap.size := fun a e => hG.blkF a e
      have HA := Lib.hid hA'
      have HGr := Lib.hid hG
      have HBs := Lib.hid hBs
      have HB := Lib.hid hb
      have HZ := Lib.hid hzi
      have HL2 := Lib.hid hl2
      have HT2 := Lib.hid ht2
      have hsw := hb.size
      have Bx : Hid (Below wr.heap.size wr (wr.alloc (.cells #[.int .i64 f0, .string f1, .slice A2 n2 c2, .int .i64 f3, .int .i64 f4_0, .int .i64 f4_1, .int .i64 f4_2] 153))) := Lib.hid (by go_grown)
      clear hG hBs hb hzi hcell hlie hlen hA' hdbig hl2 ht2
      go_wp2_with fail
      refine (implCopS f0 f1 L2 A2 n2 c2 f3 f4_0 f4_1 f4_2 _ (HL2.out.below Bx.out) HT2.out hq2).mono ?_
      rintro e w2 ⟨B2, k2, rfl, hO, hb2⟩
      have HO := Lib.hid hO
      have hs2 := hb2.size
      simp only [World.size_alloc] at hs2
      have HB2 : Hid (Below wr.heap.size wr w2) := Lib.hid (Bx.out.trans (hb2.mono Bx.out.size))
      clear hO hb2 Bx
      go_wp2_with (first
        | (refine wpList_append_dat _ rfl _ _ 25 rfl 7 (by omega) 153 i1 _ 80 Try.underlying25 hj hy0 hy1 rfl hy2 w.heap.size A' i c' (L.take i) Bs rfl ((HGr.out.below HB2.out).below ((Below.refl _ _).alloc (Nat.le_refl _) _)) (some ⟨w2.heap.size, 0, none⟩) 1 1 [.r [.i f0, .s f1, .l L2, .i f3, .r [.i f4_0, .i f4_1, .i f4_2]]] _ rfl (Src.lit rfl HO.out rfl (fun b hb => hb.2)) (fun b hb hb2 => by have h1 := (HBs.out b hb).2; have h2 := hb2.1; simp only [World.size_alloc] at h2; omega) (fun a e hb2 => by have h1 := (HA.out a e).2; have h2 := hb2.1; simp only [World.size_alloc] at h2; omega) (by unfold maxLen; omega) (by omega) (by simp only [World.size_alloc]; omega) ?_; intro A9 c9 w9 hG9 hT9 hA9; (have HG9 := Lib.hid hG9); (have hs9 := hT9.size); simp only [World.size_alloc] at hs9; (have HB9 := Lib.hid ((HB.out.trans ((HB2.out.alloc (by omega) _).mono HB.out.size)).trans (hT9.below (fun b ⟨a, e, hb⟩ => by have h1 := (HA.out a e).1; omega) (by simp only [World.size_alloc]; omega)))); clear hG9 hT9 hA9)
        | fail)
      go_roundw
      case rel =>
        refine ⟨i + 1, A9, c9, (fun b => Bs b ∨ rng (wr.alloc (.cells #[.int .i64 f0, .string f1, .slice A2 n2 c2, .int .i64 f3, .int .i64 f4_0, .int .i64 f4_1, .int .i64 f4_2] 153)).heap.size w2.heap.size b), by omega, by go_num, rfl, ?_, ?_, HB9.out⟩
        · rw [List.take_add_one, HZ.out]
          exact HG9.out
        · intro b hb
          rcases hb with hb | hb
          · have h1 := HBs.out b hb
            omega
          · have h1 := hb.1
            have h2 := hb.2
            simp only [World.size_alloc] at h1
            omega
      case measure => simp [intOf]; omega
    · obtain rfl : n = i := by omega
      have HGr : Hid (GrewD 153 7 L w (.returned (.slice A' n c')) wr) := by
        have hA' : ∀ a, A' = some a → w.heap.size ≤ a.block ∧ a.block < wr.heap.size := fun a e => hG.blkF a e
        rw [List.take_of_length_le (by have := HC.out; omega)] at hG
        exact Lib.hid ⟨A', n, c', rfl, Hold.of_grow hG (fun b h1 h2 => ⟨h1, h2⟩) hBs, hb⟩
      clear hG hBs hb
      go_wp2_with fail
      go_ret
      exact HGr.out
end Go.Proofs.Ytmeacgpebpfpbaa
end
section
namespace Go.Proofs.Ytmeacgpebpfpbaa
open Go.RowKit
set_option linter.unusedVariables false
set_option linter.unusedSimpArgs false
def CopEntity (f0 : Int) (f1 : Int) (L2 : List Dat) (n2 : Nat) (f3 : Int) (f4_0 : Int) (f4_1 : Int) (L5 : List Dat) (n5 : Nat) (L6 : List Dat) (n6 : Nat) (f7 : Int) (f8 : Int) (f9 : Int) (f10 : Int) (w : World) (e : Ending) (w' : World) : Prop := ∃ (B2 : Option Addr) (k2 : Nat) (B5 : Option Addr) (k5 : Nat) (B6 : Option Addr) (k6 : Nat), e = .returned (.agg #[.int .i64 f0, .int .i64 f1, .slice B2 n2 k2, .int .i64 f3, .int .i64 f4_0, .int .i64 f4_1, .slice B5 n5 k5, .slice B6 n6 k6, .int .i64 f7, .int .i64 f8, .int .i64 f9, .int .i64 f10]) ∧ Owns w' (.r [.i f0, .i f1, .l L2, .i f3, .r [.i f4_0, .i f4_1], .l L5, .l L6, .i f7, .i f8, .i f9, .i f10]) [.int .i64 f0, .int .i64 f1, .slice B2 n2 k2, .int .i64 f3, .int .i64 f4_0, .int .i64 f4_1, .slice B5 n5 k5, .slice B6 n6 k6, .int .i64 f7, .int .i64 f8, .int .i64 f9, .int .i64 f10] (rng w.heap.size w'.heap.size) ∧ Below w.heap.size w w'
set_option maxRecDepth 100000 in
set_option maxHeartbeats 16000000 in
theorem implCopE (f0 : Int) (f1 : Int) (L2 : List Dat) (A2 : Option Addr) (n2 c2 : Nat) (f3 : Int) (f4_0 : Int) (f4_1 : Int) (L5 : List Dat) (A5 : Option Addr) (n5 c5 : Nat) (L6 : List Dat) (A6 : Option Addr) (n6 c6 : Nat) (f7 : Int) (f8 : Int) (f9 : Int) (f10 : Int) (w : World) (hl2 : Lies w (.l L2) [.slice A2 n2 c2]) (ht2 : ∀ x ∈ L2, Has tyValue x) (hq2 : (Dat.l L2).bulk ≤ 549755813888) (hl5 : Lies w (.l L5) [.slice A5 n5 c5]) (ht5 : ∀ x ∈ L5, Has tySent x) (hq5 : (Dat.l L5).bulk ≤ 549755813888) (hl6 : Lies w (.l L6) [.slice A6 n6 c6]) (ht6 : ∀ x ∈ L6, Has tyAsker x) (hq6 : (Dat.l L6).bulk ≤ 549755813888) :
    Calls Try.prog 55 #[.agg #[.int .i64 f0, .int .i64 f1, .slice A2 n2 c2, .int .i64 f3, .int .i64 f4_0, .int .i64 f4_1, .slice A5 n5 c5, .slice A6 n6 c6, .int .i64 f7, .int .i64 f8, .int .i64 f9, .int .i64 f10]] w (CopEntity f0 f1 L2 n2 f3 f4_0 f4_1 L5 n5 L6 n6 f7 f8 f9 f10 w) := by
  obtain ⟨i0, hi0, hx0, hy0, hz0⟩ := info_parts infoValue
  obtain ⟨i1, hi1, hx1, hy1, hz1⟩ := info_parts infoAsker
  have hn2 : n2 ≤ 1099511627776 := by have h1 := hl2.count; simp only [Dat.bulk] at hq2; omega
  have hn5 : n5 ≤ 1099511627776 := by have h1 := hl5.count; simp only [Dat.bulk] at hq5; omega
  have hn6 : n6 ≤ 1099511627776 := by have h1 := hl6.count; simp only [Dat.bulk] at hq6; omega
  have HL2 := Lib.hid hl2
  have HT2 := Lib.hid ht2
  have HL5 := Lib.hid hl5
  have HT5 := Lib.hid ht5
  have HL6 := Lib.hid hl6
  have HT6 := Lib.hid ht6
  clear hl2 ht2 hl5 ht5 hl6 ht6
  have HB : Hid (Below w.heap.size w w) := Lib.hid (Below.refl _ _)
  have Zl : Hid (Zx (w.heap.size) [.int .i64 f0, .int .i64 f1, .slice A2 n2 c2, .int .i64 f3, .int .i64 f4_0, .int .i64 f4_1, .slice A5 n5 c5, .slice A6 n6 c6, .int .i64 f7, .int .i64 f8, .int .i64 f9, .int .i64 f10] (w.alloc (.cells #[.int .i64 f0, .int .i64 f1, .slice A2 n2 c2, .int .i64 f3, .int .i64 f4_0, .int .i64 f4_1, .slice A5 n5 c5, .slice A6 n6 c6, .int .i64 f7, .int .i64 f8, .int .i64 f9, .int .i64 f10] 38))) := Lib.hid (Zx.new _ _ _)
  replace HB : Hid (Below w.heap.size w (w.alloc (.cells #[.int .i64 f0, .int .i64 f1, .slice A2 n2 c2, .int .i64 f3, .int .i64 f4_0, .int .i64 f4_1, .slice A5 n5 c5, .slice A6 n6 c6, .int .i64 f7, .int .i64 f8, .int .i64 f9, .int .i64 f10] 38))) := Lib.hid (HB.out.alloc HB.out.size _)
  replace Zl : Hid (Zx (w.heap.size) [.int .i64 f0, .int .i64 f1, .slice A2 n2 c2, .int .i64 f3, .int .i64 f4_0, .int .i64 f4_1, .slice A5 n5 c5, .slice A6 n6 c6, .int .i64 f7, .int .i64 f8, .int .i64 f9, .int .i64 f10] ((w.alloc (.cells #[.int .i64 f0, .int .i64 f1, .slice A2 n2 c2, .int .i64 f3, .int .i64 f4_0, .int .i64 f4_1, .slice A5 n5 c5, .slice A6 n6 c6, .int .i64 f7, .int .i64 f8, .int .i64 f9, .int .i64 f10] 38)).alloc (.cells #[.int .i64 0, .int .i64 0, .slice none 0 0, .int .i64 0, .int .i64 0, .int .i64 0, .slice none 0 0, .slice none 0 0, .int .i64 0, .int .i64 0, .int .i64 0, .int .i64 0] 38))) := Lib.hid (Zl.out.below ((Below.refl _ _).alloc (Nat.le_refl _) _))
  have Zr : Hid (Zx (w.heap.size + 1) [.int .i64 0, .int .i64 0, .slice none 0 0, .int .i64 0, .int .i64 0, .int .i64 0, .slice none 0 0, .slice none 0 0, .int .i64 0, .int .i64 0, .int .i64 0, .int .i64 0] ((w.alloc (.cells #[.int .i64 f0, .int .i64 f1, .slice A2 n2 c2, .int .i64 f3, .int .i64 f4_0, .int .i64 f4_1, .slice A5 n5 c5, .slice A6 n6 c6, .int .i64 f7, .int .i64 f8, .int .i64 f9, .int .i64 f10] 38)).alloc (.cells #[.int .i64 0, .int .i64 0, .slice none 0 0, .int .i64 0, .int .i64 0, .int .i64 0, .slice none 0 0, .slice none 0 0, .int .i64 0, .int .i64 0, .int .i64 0, .int .i64 0] 38))) := Lib.hid (by have h1 := Zx.new (w.alloc (.cells #[.int .i64 f0, .int .i64 f1, .slice A2 n2 c2, .int .i64 f3, .int .i64 f4_0, .int .i64 f4_1, .slice A5 n5 c5, .slice A6 n6 c6, .int .i64 f7, .int .i64 f8, .int .i64 f9, .int .i64 f10] 38)) #[.int .i64 0, .int .i64 0, .slice none 0 0, .int .i64 0, .int .i64 0, .int .i64 0, .slice none 0 0, .slice none 0 0, .int .i64 0, .int .i64 0, .int .i64 0, .int .i64 0] 38; (try simp only [World.size_alloc, World.size_setCell] at h1); exact h1)
  replace HB : Hid (Below w.heap.size w ((w.alloc (.cells #[.int .i64 f0, .int .i64 f1, .slice A2 n2 c2, .int .i64 f3, .int .i64 f4_0, .int .i64 f4_1, .slice A5 n5 c5, .slice A6 n6 c6, .int .i64 f7, .int .i64 f8, .int .i64 f9, .int .i64 f10] 38)).alloc (.cells #[.int .i64 0, .int .i64 0, .slice none 0 0, .int .i64 0, .int .i64 0, .int .i64 0, .slice none 0 0, .slice none 0 0, .int .i64 0, .int .i64 0, .int .i64 0, .int .i64 0] 38))) := Lib.hid (HB.out.alloc HB.out.size _)
  go_enter Try.func55, Try.ntmps55
  have GL : Hid (Grow 31 2 (w.heap.size + 1 + 1) (((w.alloc (.cells #[.int .i64 f0, .int .i64 f1, .slice A2 n2 c2, .int .i64 f3, .int .i64 f4_0, .int .i64 f4_1, .slice A5 n5 c5, .slice A6 n6 c6, .int .i64 f7, .int .i64 f8, .int .i64 f9, .int .i64 f10] 38)).alloc (.cells #[.int .i64 0, .int .i64 0, .slice none 0 0, .int .i64 0, .int .i64 0, .int .i64 0, .slice none 0 0, .slice none 0 0, .int .i64 0, .int .i64 0, .int .i64 0, .int .i64 0] 38)).alloc (.cells #[] 31)) (some ⟨w.heap.size + 1 + 1, 0, none⟩) 0 0 [] (fun _ => False)) := Lib.hid (by have h1 := Grow.lit9 31 2 ((w.alloc (.cells #[.int .i64 f0, .int .i64 f1, .slice A2 n2 c2, .int .i64 f3, .int .i64 f4_0, .int .i64 f4_1, .slice A5 n5 c5, .slice A6 n6 c6, .int .i64 f7, .int .i64 f8, .int .i64 f9, .int .i64 f10] 38)).alloc (.cells #[.int .i64 0, .int .i64 0, .slice none 0 0, .int .i64 0, .int .i64 0, .int .i64 0, .slice none 0 0, .slice none 0 0, .int .i64 0, .int .i64 0, .int .i64 0, .int .i64 0] 38)); (try simp only [World.size_alloc, World.size_setCell] at h1); exact h1)
  have BL : Hid (Below w.heap.size w (((w.alloc (.cells #[.int .i64 f0, .int .i64 f1, .slice A2 n2 c2, .int .i64 f3, .int .i64 f4_0, .int .i64 f4_1, .slice A5 n5 c5, .slice A6 n6 c6, .int .i64 f7, .int .i64 f8, .int .i64 f9, .int .i64 f10] 38)).alloc (.cells #[.int .i64 0, .int .i64 0, .slice none 0 0, .int .i64 0, .int .i64 0, .int .i64 0, .slice none 0 0, .slice none 0 0, .int .i64 0, .int .i64 0, .int .i64 0, .int .i64 0] 38)).alloc (.cells #[] 31))) := Lib.hid (HB.out.alloc HB.out.size _)
  obtain ⟨yl0, yl1, yl2, yl3, yl4, yl5, yl6, yl7, yl8, yl9, yl10, yl11, fyl⟩ := (Zl.out.below ((Below.refl _ _).alloc (Nat.le_refl _) (.cells #[] 31))).d12
  obtain ⟨yr0, yr1, yr2, yr3, yr4, yr5, yr6, yr7, yr8, yr9, yr10, yr11, fyr⟩ := (Zr.out.below ((Below.refl _ _).alloc (Nat.le_refl _) (.cells #[] 31))).d12
  go_wp2_with (first
    | (refine wpList_append_dat _ rfl _ _ 35 rfl 2 (by omega) 31 i0 _ 16 Try.underlying35 hi0 hx0 hy0 rfl hz0 (w.heap.size + 1 + 1) _ 0 0 [] _ rfl GL.out A2 n2 c2 L2 (fun _ => False) rfl (Src.of_lies (HL2.out.below BL.out) (fun x hx => (HT2.out x hx).width) (fun x hx => Has.flat rfl (HT2.out x hx))) (fun b h => h.elim) (fun a e h => h) (by unfold maxLen; omega) (by omega) (by first | (simp; done) | (simp only [World.size_alloc, World.size_setCell]; omega)) ?_; intro B2 k2 w1 hG hT hA; have hb := Touch.fresh12 hT rfl (by first | (simp; done) | (simp only [World.size_alloc, World.size_setCell]; omega)); clear hT hA; clear GL BL yl0 yl1 yl2 yl3 yl4 yl5 yl6 yl7 yl8 yl9 yl10 yl11 yr0 yr1 yr2 yr3 yr4 yr5 yr6 yr7 yr8 yr9 yr10 yr11 fyl fyr; replace Zl : Hid (Zx (w.heap.size) [.int .i64 f0, .int .i64 f1, .slice A2 n2 c2, .int .i64 f3, .int .i64 f4_0, .int .i64 f4_1, .slice A5 n5 c5, .slice A6 n6 c6, .int .i64 f7, .int .i64 f8, .int .i64 f9, .int .i64 f10] w1) := Lib.hid (Zl.out.below hb); replace Zr : Hid (Zx (w.heap.size + 1) [.int .i64 0, .int .i64 0, .slice none 0 0, .int .i64 0, .int .i64 0, .int .i64 0, .slice none 0 0, .slice none 0 0, .int .i64 0, .int .i64 0, .int .i64 0, .int .i64 0] w1) := Lib.hid (Zr.out.below hb); replace HB : Hid (Below w.heap.size w w1) := Lib.hid (HB.out.trans (hb.mono HB.out.size)); have hsw1 : w.heap.size + 1 + 1 ≤ w1.heap.size := (by have h1 := hb.size; (try simp only [World.size_alloc, World.size_setCell] at h1); exact h1); have O2 : Hid (Owns w1 (.l L2) [.slice B2 n2 k2] (rng (w.heap.size + 1 + 1) (w1.heap.size))) := Lib.hid hG.rngO; clear hG hb; obtain ⟨zl0, zl1, zl2, zl3, zl4, zl5, zl6, zl7, zl8, zl9, zl10, zl11, fl⟩ := Zl.out.d12; obtain ⟨zr0, zr1, zr2, zr3, zr4, zr5, zr6, zr7, zr8, zr9, zr10, zr11, fr⟩ := Zr.out.d12)
    | fail)
  replace Zr : Hid (Zx (w.heap.size + 1) [.int .i64 0, .int .i64 0, .slice none 0 0, .int .i64 0, .int .i64 0, .int .i64 0, .slice none 0 0, .slice none 0 0, .int .i64 0, .int .i64 0, .int .i64 0, .int .i64 0] (w1.setCell ⟨w.heap.size, 2, none⟩ (.slice B2 n2 k2))) := Lib.hid (Zr.out.far (by have h1 := HB.out.size; omega))
  replace Zl : Hid (Zx (w.heap.size) [.int .i64 f0, .int .i64 f1, .slice B2 n2 k2, .int .i64 f3, .int .i64 f4_0, .int .i64 f4_1, .slice A5 n5 c5, .slice A6 n6 c6, .int .i64 f7, .int .i64 f8, .int .i64 f9, .int .i64 f10] (w1.setCell ⟨w.heap.size, 2, none⟩ (.slice B2 n2 k2))) := Lib.hid (Zl.out.put 2 _)
  replace HB : Hid (Below w.heap.size w (w1.setCell ⟨w.heap.size, 2, none⟩ (.slice B2 n2 k2))) := Lib.hid (HB.out.setCell (p := ⟨w.heap.size, 2, none⟩) (by show w.heap.size ≤ w.heap.size; omega) _)
  replace O2 : Hid (Owns (w1.setCell ⟨w.heap.size, 2, none⟩ (.slice B2 n2 k2)) (.l L2) [.slice B2 n2 k2] (rng (w.heap.size + 1 + 1) (w1.heap.size))) := Lib.hid (O2.out.touch ((Touch.refl (fun b => b = w.heap.size) _).setCell rfl _) (fun b hb e => by have h1 := hb.1; have h2 := HB.out.size; omega))
  refine ((eachSent L5 A5 n5 c5 _ (HL5.out.below HB.out) HT5.out (by omega)).mono (fun _ _ h => h.fresh)).mono ?_
  rintro e w2 ⟨B5, m9, k5, rfl, hO, hb⟩
  obtain rfl : n5 = m9 := by rw [← hO.lies.count, ← HL5.out.count]
  clear zl0 zl1 zl2 zl3 zl4 zl5 zl6 zl7 zl8 zl9 zl10 zl11 fl
  clear zr0 zr1 zr2 zr3 zr4 zr5 zr6 zr7 zr8 zr9 zr10 zr11 fr
  replace Zl : Hid (Zx (w.heap.size) [.int .i64 f0, .int .i64 f1, .slice B2 n2 k2, .int .i64 f3, .int .i64 f4_0, .int .i64 f4_1, .slice A5 n5 c5, .slice A6 n6 c6, .int .i64 f7, .int .i64 f8, .int .i64 f9, .int .i64 f10] w2) := Lib.hid (Zl.out.below hb)
  replace Zr : Hid (Zx (w.heap.size + 1) [.int .i64 0, .int .i64 0, .slice none 0 0, .int .i64 0, .int .i64 0, .int .i64 0, .slice none 0 0, .slice none 0 0, .int .i64 0, .int .i64 0, .int .i64 0, .int .i64 0] w2) := Lib.hid (Zr.out.below hb)
  replace HB : Hid (Below w.heap.size w w2) := Lib.hid (HB.out.trans (hb.mono HB.out.size))
  have hsw2 : w1.heap.size ≤ w2.heap.size := (by have h1 := hb.size; (try simp only [World.size_alloc, World.size_setCell] at h1); exact h1)
  replace O2 : Hid (Owns w2 (.l L2) [.slice B2 n2 k2] (rng (w.heap.size + 1 + 1) (w1.heap.size))) := Lib.hid (O2.out.below hb)
  have O5 : Hid (Owns w2 (.l L5) [.slice B5 n5 k5] (rng (w1.heap.size) (w2.heap.size))) := Lib.hid (by have h1 := hO; (try simp only [World.size_alloc, World.size_setCell] at h1); exact h1)
  clear hO hb
  obtain ⟨zl0, zl1, zl2, zl3, zl4, zl5, zl6, zl7, zl8, zl9, zl10, zl11, fl⟩ := Zl.out.d12
  obtain ⟨zr0, zr1, zr2, zr3, zr4, zr5, zr6, zr7, zr8, zr9, zr10, zr11, fr⟩ := Zr.out.d12
  replace Zr : Hid (Zx (w.heap.size + 1) [.int .i64 0, .int .i64 0, .slice none 0 0, .int .i64 0, .int .i64 0, .int .i64 0, .slice none 0 0, .slice none 0 0, .int .i64 0, .int .i64 0, .int .i64 0, .int .i64 0] (w2.setCell ⟨w.heap.size, 6, none⟩ (.slice B5 n5 k5))) := Lib.hid (Zr.out.far (by have h1 := HB.out.size; omega))
  replace Zl : Hid (Zx (w.heap.size) [.int .i64 f0, .int .i64 f1, .slice B2 n2 k2, .int .i64 f3, .int .i64 f4_0, .int .i64 f4_1, .slice B5 n5 k5, .slice A6 n6 c6, .int .i64 f7, .int .i64 f8, .int .i64 f9, .int .i64 f10] (w2.setCell ⟨w.heap.size, 6, none⟩ (.slice B5 n5 k5))) := Lib.hid (Zl.out.put 6 _)
  replace HB : Hid (Below w.heap.size w (w2.setCell ⟨w.heap.size, 6, none⟩ (.slice B5 n5 k5))) := Lib.hid (HB.out.setCell (p := ⟨w.heap.size, 6, none⟩) (by show w.heap.size ≤ w.heap.size; omega) _)
  replace O2 : Hid (Owns (w2.setCell ⟨w.heap.size, 6, none⟩ (.slice B5 n5 k5)) (.l L2) [.slice B2 n2 k2] (rng (w.heap.size + 1 + 1) (w1.heap.size))) := Lib.hid (O2.out.touch ((Touch.refl (fun b => b = w.heap.size) _).setCell rfl _) (fun b hb e => by have h1 := hb.1; have h2 := HB.out.size; omega))
  replace O5 : Hid (Owns (w2.setCell ⟨w.heap.size, 6, none⟩ (.slice B5 n5 k5)) (.l L5) [.slice B5 n5 k5] (rng (w1.heap.size) (w2.heap.size))) := Lib.hid (O5.out.touch ((Touch.refl (fun b => b = w.heap.size) _).setCell rfl _) (fun b hb e => by have h1 := hb.1; have h2 := HB.out.size; omega))
  have GL : Hid (Grow 119 2 (w2.heap.size) ((w2.setCell ⟨w.heap.size, 6, none⟩ (.slice B5 n5 k5)).alloc (.cells #[] 119)) (some ⟨w2.heap.size, 0, none⟩) 0 0 [] (fun _ => False)) := Lib.hid (by have h1 := Grow.lit9 119 2 (w2.setCell ⟨w.heap.size, 6, none⟩ (.slice B5 n5 k5)); (try simp only [World.size_alloc, World.size_setCell] at h1); exact h1)
  have BL : Hid (Below w.heap.size w ((w2.setCell ⟨w.heap.size, 6, none⟩ (.slice B5 n5 k5)).alloc (.cells #[] 119))) := Lib.hid (HB.out.alloc HB.out.size _)
  obtain ⟨yl0, yl1, yl2, yl3, yl4, yl5, yl6, yl7, yl8, yl9, yl10, yl11, fyl⟩ := (Zl.out.below ((Below.refl _ _).alloc (Nat.le_refl _) (.cells #[] 119))).d12
  obtain ⟨yr0, yr1, yr2, yr3, yr4, yr5, yr6, yr7, yr8, yr9, yr10, yr11, fyr⟩ := (Zr.out.below ((Below.refl _ _).alloc (Nat.le_refl _) (.cells #[] 119))).d12
  go_wp2_with (first
    | (refine wpList_append_dat _ rfl _ _ 36 rfl 2 (by omega) 119 i1 _ 16 Try.underlying36 hi1 hx1 hy1 rfl hz1 (w2.heap.size) _ 0 0 [] _ rfl GL.out A6 n6 c6 L6 (fun _ => False) rfl (Src.of_lies (HL6.out.below BL.out) (fun x hx => (HT6.out x hx).width) (fun x hx => Has.flat rfl (HT6.out x hx))) (fun b h => h.elim) (fun a e h => h) (by unfold maxLen; omega) (by omega) (by first | (simp; done) | (simp only [World.size_alloc, World.size_setCell]; omega)) ?_; intro B6 k6 w3 hG hT hA; have hb := Touch.fresh12 hT rfl (by first | (simp; done) | (simp only [World.size_alloc, World.size_setCell]; omega)); clear hT hA; clear zl0 zl1 zl2 zl3 zl4 zl5 zl6 zl7 zl8 zl9 zl10 zl11 fl; clear zr0 zr1 zr2 zr3 zr4 zr5 zr6 zr7 zr8 zr9 zr10 zr11 fr; clear GL BL yl0 yl1 yl2 yl3 yl4 yl5 yl6 yl7 yl8 yl9 yl10 yl11 yr0 yr1 yr2 yr3 yr4 yr5 yr6 yr7 yr8 yr9 yr10 yr11 fyl fyr; replace Zl : Hid (Zx (w.heap.size) [.int .i64 f0, .int .i64 f1, .slice B2 n2 k2, .int .i64 f3, .int .i64 f4_0, .int .i64 f4_1, .slice B5 n5 k5, .slice A6 n6 c6, .int .i64 f7, .int .i64 f8, .int .i64 f9, .int .i64 f10] w3) := Lib.hid (Zl.out.below hb); replace Zr : Hid (Zx (w.heap.size + 1) [.int .i64 0, .int .i64 0, .slice none 0 0, .int .i64 0, .int .i64 0, .int .i64 0, .slice none 0 0, .slice none 0 0, .int .i64 0, .int .i64 0, .int .i64 0, .int .i64 0] w3) := Lib.hid (Zr.out.below hb); replace HB : Hid (Below w.heap.size w w3) := Lib.hid (HB.out.trans (hb.mono HB.out.size)); have hsw3 : w2.heap.size ≤ w3.heap.size := (by have h1 := hb.size; (try simp only [World.size_alloc, World.size_setCell] at h1); exact h1); replace O2 : Hid (Owns w3 (.l L2) [.slice B2 n2 k2] (rng (w.heap.size + 1 + 1) (w1.heap.size))) := Lib.hid (O2.out.below hb); replace O5 : Hid (Owns w3 (.l L5) [.slice B5 n5 k5] (rng (w1.heap.size) (w2.heap.size))) := Lib.hid (O5.out.below hb); have O6 : Hid (Owns w3 (.l L6) [.slice B6 n6 k6] (rng (w2.heap.size) (w3.heap.size))) := Lib.hid hG.rngO; clear hG hb; obtain ⟨zl0, zl1, zl2, zl3, zl4, zl5, zl6, zl7, zl8, zl9, zl10, zl11, fl⟩ := Zl.out.d12; obtain ⟨zr0, zr1, zr2, zr3, zr4, zr5, zr6, zr7, zr8, zr9, zr10, zr11, fr⟩ := Zr.out.d12)
    | fail)
  refine bodyPost_ret (v := .agg #[.int .i64 f0, .int .i64 f1, .slice B2 n2 k2, .int .i64 f3, .int .i64 f4_0, .int .i64 f4_1, .slice B5 n5 k5, .slice B6 n6 k6, .int .i64 f7, .int .i64 f8, .int .i64 f9, .int .i64 f10]) ?hres rfl ?hpost
  case hres => exact results_box rfl _ _ (w.heap.size + 1) [.int .i64 f0, .int .i64 f1, .slice B2 n2 k2, .int .i64 f3, .int .i64 f4_0, .int .i64 f4_1, .slice B5 n5 k5, .slice B6 n6 k6, .int .i64 f7, .int .i64 f8, .int .i64 f9, .int .i64 f10] _ rfl (((((((((((((Zr.out.1.far (by omega) _).put 0 _).put 1 _).put 2 _).put 3 _).put 4 _).put 5 _).put 6 _).put 7 _).put 8 _).put 9 _).put 10 _).put 11 _) Try.underlying38 rfl (by kernel_rfl)
  case hpost =>
    have l1 : w.heap.size ≤ w.heap.size + 1 := by omega
    have l2 : w.heap.size ≤ w.heap.size := by omega
    suffices h9 : ∀ w' : World, Touch (fun b => b = w.heap.size + 1 ∨ b = w.heap.size) w3 w' → Below w.heap.size w w' → CopEntity f0 f1 L2 n2 f3 f4_0 f4_1 L5 n5 L6 n6 f7 f8 f9 f10 w (.returned (.agg #[.int .i64 f0, .int .i64 f1, .slice B2 n2 k2, .int .i64 f3, .int .i64 f4_0, .int .i64 f4_1, .slice B5 n5 k5, .slice B6 n6 k6, .int .i64 f7, .int .i64 f8, .int .i64 f9, .int .i64 f10])) w' from h9 _ ((((((((((((((Touch.refl (fun b => b = w.heap.size + 1 ∨ b = w.heap.size) w3).setCell (Or.inr rfl) _).setCell (Or.inl rfl) _).setCell (Or.inl rfl) _).setCell (Or.inl rfl) _).setCell (Or.inl rfl) _).setCell (Or.inl rfl) _).setCell (Or.inl rfl) _).setCell (Or.inl rfl) _).setCell (Or.inl rfl) _).setCell (Or.inl rfl) _).setCell (Or.inl rfl) _).setCell (Or.inl rfl) _).setCell (Or.inl rfl) _) (((((((((((((HB.out.setCell l2 _).setCell l1 _).setCell l1 _).setCell l1 _).setCell l1 _).setCell l1 _).setCell l1 _).setCell l1 _).setCell l1 _).setCell l1 _).setCell l1 _).setCell l1 _).setCell l1 _)
    intro w' hT9 hB9
    have hs9 := hT9.size
    exact ⟨B2, k2, B5, k5, B6, k6, rfl, ownEntity ((O2.out.touch hT9 (fun b hb hS => by have h1 := hb.1; rcases hS with h | h <;> omega)).mono (B' := rng (w.heap.size) (w1.heap.size)) (fun b hb => ⟨by have h1 := hb.1; omega, by have h1 := hb.2; omega⟩)) ((O5.out.touch hT9 (fun b hb hS => by have h1 := hb.1; rcases hS with h | h <;> omega)).mono (B' := rng (w1.heap.size) (w2.heap.size)) (fun b hb => ⟨by have h1 := hb.1; omega, by have h1 := hb.2; omega⟩)) ((O6.out.touch hT9 (fun b hb hS => by have h1 := hb.1; rcases hS with h | h <;> omega)).mono (B' := rng (w2.heap.size) (w'.heap.size)) (fun b hb => ⟨by have h1 := hb.1; omega, by have h1 := hb.2; omega⟩)) (by omega) (by omega) (by omega), hB9⟩
end Go.Proofs.Ytmeacgpebpfpbaa
end
section
namespace Go.Proofs.Ytmeacgpebpfpbaa
open Go.RowKit
set_option linter.unusedVariables false
set_option linter.unusedSimpArgs false
set_option maxRecDepth 100000 in
set_option maxHeartbeats 16000000 in
theorem eachEnt (L : List Dat) (A : Option Addr) (n c : Nat) (w : World) (h : Lies w (.l L) [.slice A n c]) (ht : ∀ x ∈ L, Has tyEntity x) (hq : (Dat.l L).bulk ≤ 549755813888) :
    Calls Try.prog 117 #[.slice A n c, .func (.func 55) #[] #[]] w (GrewD 38 12 L w) := by
  obtain ⟨i1, hj, hy0, hy1, hy2⟩ := info_parts infoEntity
  have hn : n ≤ 549755813888 := by have := h.count; simp only [Dat.bulk] at hq; omega
  have hn2s : ∀ x ∈ L, x.bulk ≤ 549755813888 := fun x hx => by have h1 := bulk_mem hx; simp only [Dat.bulk] at hq; omega
  have H := Lib.hid h
  have HT := Lib.hid ht
  have HC := Lib.hid h.count
  have HN2 := Lib.hid hn2s
  clear h ht hq hn2s
  go_enter Try.func117, Try.ntmps117
  go_wp2_with (refine wpList_make_own _ rfl _ _ 24 rfl w.heap.size 38 i1 _ 12 Try.underlying24 hj hy0 hy1 _ _ (n : Int) n rfl rfl rfl (by rw [hy2]; omega) (by unfold maxLen; omega) (Nat.le_refl _) ?_)
  intro w0 hown hgrow
  have G0 := Lib.hid (Grow.made0 hown)
  have B0 : Hid (Below w.heap.size w w0) := Lib.hid ((Below.refl w.heap.size w).grown hgrow (Nat.le_refl _) (fun k h => by cases h))
  clear hown hgrow
  go_wp2
  go_loopw [5, 13] (fun ov iv wr => ∃ (i : Nat) (A' : Option Addr) (c' : Nat) (Bs : Nat → Prop), i ≤ n ∧ iv = .int .i64 i ∧ ov = .slice A' i c' ∧ Grow 38 12 w.heap.size wr A' i c' (L.take i) Bs ∧ (∀ b, Bs b → w.heap.size ≤ b ∧ b < wr.heap.size) ∧ Below w.heap.size w wr) (fun _ iv _ => n - (intOf iv).toNat)
  case atStart => exact ⟨0, _, _, _, Nat.zero_le _, rfl, rfl, G0.out, (fun b hb => hb.elim), B0.out⟩
  case round =>
    obtain ⟨i, A', c', Bs, hin, rfl, rfl, hG, hBs, hb⟩ := hrel
    clear G0 B0
    by_cases hlt : i < n
    · obtain ⟨b, off, d, xs, rfl, hbw, hzi, hlie, hlen, hcell⟩ := (H.out.below hb).elem (fun x hx => (HT.out x hx).width) hlt
      have hdbig := HN2.out d (List.mem_of_getElem? hzi)
      obtain ⟨f0, f1, L2, A2, n2, c2, f3, f4_0, f4_1, L5, A5, n5, c5, L6, A6, n6, c6, f7, f8, f9, f10, rfl, rfl, hl2, ht2, -, hl5, ht5, -, hl6, ht6, -⟩ := invEntity (HT.out d (List.mem_of_getElem? hzi)) hlie
      have r0 : wr.cell? ⟨b, off + i * 12, none⟩ = some (.int .i64 f0) := hcell 0 _ rfl
      have r1 : wr.cell? ⟨b, off + i * 12 + 1, none⟩ = some (.int .i64 f1) := hcell 1 _ rfl
      have r2 : wr.cell? ⟨b, off + i * 12 + 2, none⟩ = some (.slice A2 n2 c2) := hcell 2 _ rfl
      have r3 : wr.cell? ⟨b, off + i * 12 + 3, none⟩ = some (.int .i64 f3) := hcell 3 _ rfl
      have r4 : wr.cell? ⟨b, off + i * 12 + 4, none⟩ = some (.int .i64 f4_0) := hcell 4 _ rfl
      have r5 : wr.cell? ⟨b, off + i * 12 + 5, none⟩ = some (.int .i64 f4_1) := hcell 5 _ rfl
      have r6 : wr.cell? ⟨b, off + i * 12 + 6, none⟩ = some (.slice A5 n5 c5) := hcell 6 _ rfl
      have r7 : wr.cell? ⟨b, off + i * 12 + 7, none⟩ = some (.slice A6 n6 c6) := hcell 7 _ rfl
      have r8 : wr.cell? ⟨b, off + i * 12 + 8, none⟩ = some (.int .i64 f7) := hcell 8 _ rfl
      have r9 : wr.cell? ⟨b, off + i * 12 + 9, none⟩ = some (.int .i64 f8) := hcell 9 _ rfl
      have r10 : wr.cell? ⟨b, off + i * 12 + 10, none⟩ = some (.int .i64 f9) := hcell 10 _ rfl
      have r11 : wr.cell? ⟨b, off + i * 12 + 11, none⟩ = some (.int .i64 f10) := hcell 11 _ rfl
      have hq2 : (Dat.l L2).bulk ≤ 549755813888 := by have h1 := hdbig; simp only [Dat.bulk, bulkAll] at h1 ⊢; omega
      have hq5 : (Dat.l L5).bulk ≤ 549755813888 := by have h1 := hdbig; simp only [Dat.bulk, bulkAll] at h1 ⊢; omega
      have hq6 : (Dat.l L6).bulk ≤ 549755813888 := by have h1 := hdbig; simp only [Dat.bulk, bulkAll] at h1 ⊢; omega
      have hA' : ∀ a, A' = some a → w.heap.size ≤ a.block ∧ a.block < wr.heap.size := fun a e => hG.blkF a e
      have HA := Lib.hid hA'
      have HGr := Lib.hid hG
      have HBs := Lib.hid hBs
      have HB := Lib.hid hb
      have HZ := Lib.hid hzi
      have HL2 := Lib.hid hl2
      have HT2 := Lib.hid ht2
      have HL5 := Lib.hid hl5
      have HT5 := Lib.hid ht5
      have HL6 := Lib.hid hl6
      have HT6 := Lib.hid ht6
      have hsw := hb.size
      have Bx : Hid (Below wr.heap.size wr (wr.alloc (.cells #[.int .i64 f0, .int .i64 f1, .slice A2 n2 c2, .int .i64 f3, .int .i64 f4_0, .int .i64 f4_1, .slice A5 n5 c5, .slice A6 n6 c6, .int .i64 f7, .int .i64 f8, .int .i64 f9, .int .i64 f10] 38))) := Lib.hid (by go_grown)
      clear hG hBs hb hzi hcell hlie hlen hA' hdbig hl2 ht2 hl5 ht5 hl6 ht6
      go_wp2_with fail
      refine (implCopE f0 f1 L2 A2 n2 c2 f3 f4_0 f4_1 L5 A5 n5 c5 L6 A6 n6 c6 f7 f8 f9 f10 _ (HL2.out.below Bx.out) HT2.out hq2 (HL5.out.below Bx.out) HT5.out hq5 (HL6.out.below Bx.out) HT6.out hq6).mono ?_
      rintro e w2 ⟨B2, k2, B5, k5, B6, k6, rfl, hO, hb2⟩
      have HO := Lib.hid hO
      have hs2 := hb2.size
      simp only [World.size_alloc] at hs2
      have HB2 : Hid (Below wr.heap.size wr w2) := Lib.hid (Bx.out.trans (hb2.mono Bx.out.size))
      clear hO hb2 Bx
      go_wp2_with (first
        | (refine wpList_append_dat _ rfl _ _ 24 rfl 12 (by omega) 38 i1 _ 144 Try.underlying24 hj hy0 hy1 rfl hy2 w.heap.size A' i c' (L.take i) Bs rfl ((HGr.out.below HB2.out).below ((Below.refl _ _).alloc (Nat.le_refl _) _)) (some ⟨w2.heap.size, 0, none⟩) 1 1 [.r [.i f0, .i f1, .l L2, .i f3, .r [.i f4_0, .i f4_1], .l L5, .l L6, .i f7, .i f8, .i f9, .i f10]] _ rfl (Src.lit rfl HO.out rfl (fun b hb => hb.2)) (fun b hb hb2 => by have h1 := (HBs.out b hb).2; have h2 := hb2.1; simp only [World.size_alloc] at h2; omega) (fun a e hb2 => by have h1 := (HA.out a e).2; have h2 := hb2.1; simp only [World.size_alloc] at h2; omega) (by unfold maxLen; omega) (by omega) (by simp only [World.size_alloc]; omega) ?_; intro A9 c9 w9 hG9 hT9 hA9; (have HG9 := Lib.hid hG9); (have hs9 := hT9.size); simp only [World.size_alloc] at hs9; (have HB9 := Lib.hid ((HB.out.trans ((HB2.out.alloc (by omega) _).mono HB.out.size)).trans (hT9.below (fun b ⟨a, e, hb⟩ => by have h1 := (HA.out a e).1; omega) (by simp only [World.size_alloc]; omega)))); clear hG9 hT9 hA9)
        | fail)
      go_roundw
      case rel =>
        refine ⟨i + 1, A9, c9, (fun b => Bs b ∨ rng (wr.alloc (.cells #[.int .i64 f0, .int .i64 f1, .slice A2 n2 c2, .int .i64 f3, .int .i64 f4_0, .int .i64 f4_1, .slice A5 n5 c5, .slice A6 n6 c6, .int .i64 f7, .int .i64 f8, .int .i64 f9, .int .i64 f10] 38)).heap.size w2.heap.size b), by omega, by go_num, rfl, ?_, ?_, HB9.out⟩
        · rw [List.take_add_one, HZ.out]
          exact HG9.out
        · intro b hb
          rcases hb with hb | hb
          · have h1 := HBs.out b hb
            omega
          · have h1 := hb.1
            have h2 := hb.2
            simp only [World.size_alloc] at h1
            omega
      case measure => simp [intOf]; omega
    · obtain rfl : n = i := by omega
      have HGr : Hid (GrewD 38 12 L w (.returned (.slice A' n c')) wr) := by
        have hA' : ∀ a, A' = some a → w.heap.size ≤ a.block ∧ a.block < wr.heap.size := fun a e => hG.blkF a e
        rw [List.take_of_length_le (by have := HC.out; omega)] at hG
        exact Lib.hid ⟨A', n, c', rfl, Hold.of_grow hG (fun b h1 h2 => ⟨h1, h2⟩) hBs, hb⟩
      clear hG hBs hb
      go_wp2_with fail
      go_ret
      exact HGr.out
end Go.Proofs.Ytmeacgpebpfpbaa
end
