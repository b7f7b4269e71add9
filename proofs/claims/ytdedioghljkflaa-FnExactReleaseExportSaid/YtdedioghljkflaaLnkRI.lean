/- Chapter 10: the program's ReleaseExport. -/
import Derived.Test.YtdedioghljkflaaLnkR
import Derived.Test.YtdedioghljkflaaLnkM
import Derived.Maps.OwnSet
import Derived.Test.YtdedioghljkflaaLnkC
import Derived.Deep.RegionHeld3
import Derived.Deep.RegionLaw
import Derived.Deep.Cut
import Derived.LoopTactic
import Derived.Lib.Hide
import Derived.Deep.QuietTactic
import Derived.BigQuiet
import Derived.Deep.RegionWith
import Derived.Handy
namespace Go.Proofs.Ytdedioghljkflaa
open Go.RowKit Go.Maps Go.Sort
set_option linter.unusedVariables false
set_option linter.unusedSimpArgs false
set_option maxRecDepth 100000 in
set_option maxHeartbeats 16000000 in
theorem implRel (f0 : Int) (f1 : Bool) (L2 : List Dat) (A2 : Option Addr) (n2 c2 : Nat) (f3 : Int) (L4 : List Dat) (A4 : Option Addr) (n4 c4 : Nat) (f5 : Int) (L6 : List Dat) (A6 : Option Addr) (n6 c6 : Nat) (x y : Int) (w : World) (hl2 : Lies w (.l L2) [.slice A2 n2 c2]) (ht2 : ∀ x ∈ L2, Has tyExport x) (hl4 : Lies w (.l L4) [.slice A4 n4 c4]) (ht4 : ∀ x ∈ L4, Has tyQuestion x) (hl6 : Lies w (.l L6) [.slice A6 n6 c6]) (ht6 : ∀ x ∈ L6, Has tyQuestion x) (hn2 : n2 ≤ 1099511627776) (hn4 : n4 ≤ 1099511627776) (hn6 : n6 ≤ 1099511627776) :
    Calls Try.prog 18 #[.agg #[.int .i64 f0, .bool f1, .slice A2 n2 c2, .int .i64 f3, .slice A4 n4 c4, .int .i64 f5, .slice A6 n6 c6], .int .i64 x, .int .i64 y] w (GivesL f0 f1 (relX x y L2) (relX x y L2).length f3 L4 n4 f5 L6 n6 w) := by
  have HC2 := Lib.hid hl2.count
  rcases idx_cases1 (isF 0 x) L2 with ⟨h1, h2⟩ | ⟨i, d, h1, h2, h3, h4, h5⟩
  · have HI := Lib.hid h1
    have E1 : Hid (L2 = relX x y L2) := Lib.hid (relX_none h2).symm
    have E2 : Hid (n2 = (relX x y L2).length) := Lib.hid (by rw [relX_none h2, HC2.out])
    clear h1 h2
    have HL2 := Lib.hid hl2
    have HT2 := Lib.hid ht2
    have HL4 := Lib.hid hl4
    have HT4 := Lib.hid ht4
    have HL6 := Lib.hid hl6
    have HT6 := Lib.hid ht6
    clear hl2 hl4 hl6 ht2 ht4 ht6
    obtain ⟨i0, hi, hz0, hz1, hz2⟩ := info_parts infoExport
    obtain ⟨i1, hj, hy0, hy1, hy2⟩ := info_parts infoQuestion
    have HB : Hid (Below w.heap.size w w) := Lib.hid (Below.refl _ _)
    have Zl : Hid (Zx (w.heap.size) [.int .i64 f0, .bool f1, .slice A2 n2 c2, .int .i64 f3, .slice A4 n4 c4, .int .i64 f5, .slice A6 n6 c6] (w.alloc (.cells #[.int .i64 f0, .bool f1, .slice A2 n2 c2, .int .i64 f3, .slice A4 n4 c4, .int .i64 f5, .slice A6 n6 c6] 27))) := Lib.hid (Zx.new _ _ _)
    replace HB : Hid (Below w.heap.size w (w.alloc (.cells #[.int .i64 f0, .bool f1, .slice A2 n2 c2, .int .i64 f3, .slice A4 n4 c4, .int .i64 f5, .slice A6 n6 c6] 27))) := Lib.hid (HB.out.alloc HB.out.size _)
    replace Zl : Hid (Zx (w.heap.size) [.int .i64 f0, .bool f1, .slice A2 n2 c2, .int .i64 f3, .slice A4 n4 c4, .int .i64 f5, .slice A6 n6 c6] ((w.alloc (.cells #[.int .i64 f0, .bool f1, .slice A2 n2 c2, .int .i64 f3, .slice A4 n4 c4, .int .i64 f5, .slice A6 n6 c6] 27)).alloc (.cells #[.int .i64 0, .bool false, .slice none 0 0, .int .i64 0, .slice none 0 0, .int .i64 0, .slice none 0 0] 27))) := Lib.hid (Zl.out.below ((Below.refl _ _).alloc (Nat.le_refl _) _))
    have Zr : Hid (Zx (w.heap.size + 1) [.int .i64 0, .bool false, .slice none 0 0, .int .i64 0, .slice none 0 0, .int .i64 0, .slice none 0 0] ((w.alloc (.cells #[.int .i64 f0, .bool f1, .slice A2 n2 c2, .int .i64 f3, .slice A4 n4 c4, .int .i64 f5, .slice A6 n6 c6] 27)).alloc (.cells #[.int .i64 0, .bool false, .slice none 0 0, .int .i64 0, .slice none 0 0, .int .i64 0, .slice none 0 0] 27))) := Lib.hid (by have h1 := Zx.new (w.alloc (.cells #[.int .i64 f0, .bool f1, .slice A2 n2 c2, .int .i64 f3, .slice A4 n4 c4, .int .i64 f5, .slice A6 n6 c6] 27)) #[.int .i64 0, .bool false, .slice none 0 0, .int .i64 0, .slice none 0 0, .int .i64 0, .slice none 0 0] 27; (try simp only [World.size_alloc, World.size_setCell] at h1); exact h1)
    replace HB : Hid (Below w.heap.size w ((w.alloc (.cells #[.int .i64 f0, .bool f1, .slice A2 n2 c2, .int .i64 f3, .slice A4 n4 c4, .int .i64 f5, .slice A6 n6 c6] 27)).alloc (.cells #[.int .i64 0, .bool false, .slice none 0 0, .int .i64 0, .slice none 0 0, .int .i64 0, .slice none 0 0] 27))) := Lib.hid (HB.out.alloc HB.out.size _)
    go_enter Try.func18, Try.ntmps18
    go_wp2_with fail
    refine (implCopy f0 f1 L2 A2 n2 c2 f3 L4 A4 n4 c4 f5 L6 A6 n6 c6 _ (HL2.out.below HB.out) HT2.out (HL4.out.below HB.out) HT4.out (HL6.out.below HB.out) HT6.out hn2 hn4 hn6).mono ?_
    rintro e w1 ⟨B2, k2, B4, k4, B6, k6, rfl, hK, hb⟩
    replace Zl : Hid (Zx (w.heap.size) [.int .i64 f0, .bool f1, .slice A2 n2 c2, .int .i64 f3, .slice A4 n4 c4, .int .i64 f5, .slice A6 n6 c6] w1) := Lib.hid (Zl.out.below hb)
    replace Zr : Hid (Zx (w.heap.size + 1) [.int .i64 0, .bool false, .slice none 0 0, .int .i64 0, .slice none 0 0, .int .i64 0, .slice none 0 0] w1) := Lib.hid (Zr.out.below hb)
    replace HB : Hid (Below w.heap.size w w1) := Lib.hid (HB.out.trans (hb.mono HB.out.size))
    have hsw1 : w.heap.size + 1 + 1 ≤ w1.heap.size := (by have h1 := hb.size; (try simp only [World.size_alloc, World.size_setCell] at h1); exact h1)
    have G2 : Hid (Grow 54 3 (w.heap.size + 1 + 1) w1 B2 n2 k2 L2 (fun _ => False)) := Lib.hid (by have h1 := hK.g2; (try simp only [World.size_alloc] at h1); exact h1)
    have G4 : Hid (Grow 60 2 (w.heap.size + 1 + 1) w1 B4 n4 k4 L4 (fun _ => False)) := Lib.hid (by have h1 := hK.g4; (try simp only [World.size_alloc] at h1); exact h1)
    have G6 : Hid (Grow 60 2 (w.heap.size + 1 + 1) w1 B6 n6 k6 L6 (fun _ => False)) := Lib.hid (by have h1 := hK.g6; (try simp only [World.size_alloc] at h1); exact h1)
    have P24 := Lib.hid hK.p24
    have P26 := Lib.hid hK.p26
    have P46 := Lib.hid hK.p46
    clear hK hb
    obtain ⟨zl0, zl1, zl2, zl3, zl4, zl5, zl6, fl⟩ := Zl.out.c7
    obtain ⟨zr0, zr1, zr2, zr3, zr4, zr5, zr6, fr⟩ := Zr.out.c7
    have hT : Touch (fun b => b = w.heap.size) w1 (((((((w1.setCell ⟨w.heap.size, 0, none⟩ (.int .i64 f0)).setCell ⟨w.heap.size, 1, none⟩ (.bool f1)).setCell ⟨w.heap.size, 2, none⟩ (.slice B2 n2 k2)).setCell ⟨w.heap.size, 3, none⟩ (.int .i64 f3)).setCell ⟨w.heap.size, 4, none⟩ (.slice B4 n4 k4)).setCell ⟨w.heap.size, 5, none⟩ (.int .i64 f5)).setCell ⟨w.heap.size, 6, none⟩ (.slice B6 n6 k6)) := (((((((Touch.refl (fun b => b = w.heap.size) w1).setCell (p := ⟨w.heap.size, 0, none⟩) rfl (.int .i64 f0)).setCell (p := ⟨w.heap.size, 1, none⟩) rfl (.bool f1)).setCell (p := ⟨w.heap.size, 2, none⟩) rfl (.slice B2 n2 k2)).setCell (p := ⟨w.heap.size, 3, none⟩) rfl (.int .i64 f3)).setCell (p := ⟨w.heap.size, 4, none⟩) rfl (.slice B4 n4 k4)).setCell (p := ⟨w.heap.size, 5, none⟩) rfl (.int .i64 f5)).setCell (p := ⟨w.heap.size, 6, none⟩) rfl (.slice B6 n6 k6)
    replace Zr : Hid (Zx (w.heap.size + 1) [.int .i64 0, .bool false, .slice none 0 0, .int .i64 0, .slice none 0 0, .int .i64 0, .slice none 0 0] (((((((w1.setCell ⟨w.heap.size, 0, none⟩ (.int .i64 f0)).setCell ⟨w.heap.size, 1, none⟩ (.bool f1)).setCell ⟨w.heap.size, 2, none⟩ (.slice B2 n2 k2)).setCell ⟨w.heap.size, 3, none⟩ (.int .i64 f3)).setCell ⟨w.heap.size, 4, none⟩ (.slice B4 n4 k4)).setCell ⟨w.heap.size, 5, none⟩ (.int .i64 f5)).setCell ⟨w.heap.size, 6, none⟩ (.slice B6 n6 k6))) := Lib.hid (Zr.out.touch hT (by have h1 := HB.out.size; omega))
    replace G2 : Hid (Grow 54 3 (w.heap.size + 1 + 1) (((((((w1.setCell ⟨w.heap.size, 0, none⟩ (.int .i64 f0)).setCell ⟨w.heap.size, 1, none⟩ (.bool f1)).setCell ⟨w.heap.size, 2, none⟩ (.slice B2 n2 k2)).setCell ⟨w.heap.size, 3, none⟩ (.int .i64 f3)).setCell ⟨w.heap.size, 4, none⟩ (.slice B4 n4 k4)).setCell ⟨w.heap.size, 5, none⟩ (.int .i64 f5)).setCell ⟨w.heap.size, 6, none⟩ (.slice B6 n6 k6)) B2 n2 k2 L2 (fun _ => False)) := Lib.hid (G2.out.touch hT (fun a e h => by have h1 := (G2.out.blkF a e).1; have h2 := HB.out.size; omega) (fun _ h => h.elim))
    replace G4 : Hid (Grow 60 2 (w.heap.size + 1 + 1) (((((((w1.setCell ⟨w.heap.size, 0, none⟩ (.int .i64 f0)).setCell ⟨w.heap.size, 1, none⟩ (.bool f1)).setCell ⟨w.heap.size, 2, none⟩ (.slice B2 n2 k2)).setCell ⟨w.heap.size, 3, none⟩ (.int .i64 f3)).setCell ⟨w.heap.size, 4, none⟩ (.slice B4 n4 k4)).setCell ⟨w.heap.size, 5, none⟩ (.int .i64 f5)).setCell ⟨w.heap.size, 6, none⟩ (.slice B6 n6 k6)) B4 n4 k4 L4 (fun _ => False)) := Lib.hid (G4.out.touch hT (fun a e h => by have h1 := (G4.out.blkF a e).1; have h2 := HB.out.size; omega) (fun _ h => h.elim))
    replace G6 : Hid (Grow 60 2 (w.heap.size + 1 + 1) (((((((w1.setCell ⟨w.heap.size, 0, none⟩ (.int .i64 f0)).setCell ⟨w.heap.size, 1, none⟩ (.bool f1)).setCell ⟨w.heap.size, 2, none⟩ (.slice B2 n2 k2)).setCell ⟨w.heap.size, 3, none⟩ (.int .i64 f3)).setCell ⟨w.heap.size, 4, none⟩ (.slice B4 n4 k4)).setCell ⟨w.heap.size, 5, none⟩ (.int .i64 f5)).setCell ⟨w.heap.size, 6, none⟩ (.slice B6 n6 k6)) B6 n6 k6 L6 (fun _ => False)) := Lib.hid (G6.out.touch hT (fun a e h => by have h1 := (G6.out.blkF a e).1; have h2 := HB.out.size; omega) (fun _ h => h.elim))
    replace Zl : Hid (Zx (w.heap.size) [.int .i64 f0, .bool f1, .slice B2 n2 k2, .int .i64 f3, .slice B4 n4 k4, .int .i64 f5, .slice B6 n6 k6] (((((((w1.setCell ⟨w.heap.size, 0, none⟩ (.int .i64 f0)).setCell ⟨w.heap.size, 1, none⟩ (.bool f1)).setCell ⟨w.heap.size, 2, none⟩ (.slice B2 n2 k2)).setCell ⟨w.heap.size, 3, none⟩ (.int .i64 f3)).setCell ⟨w.heap.size, 4, none⟩ (.slice B4 n4 k4)).setCell ⟨w.heap.size, 5, none⟩ (.int .i64 f5)).setCell ⟨w.heap.size, 6, none⟩ (.slice B6 n6 k6))) := Lib.hid (((((((Zl.out.put 0 (.int .i64 f0)).put 1 (.bool f1)).put 2 (.slice B2 n2 k2)).put 3 (.int .i64 f3)).put 4 (.slice B4 n4 k4)).put 5 (.int .i64 f5)).put 6 (.slice B6 n6 k6))
    replace HB : Hid (Below w.heap.size w (((((((w1.setCell ⟨w.heap.size, 0, none⟩ (.int .i64 f0)).setCell ⟨w.heap.size, 1, none⟩ (.bool f1)).setCell ⟨w.heap.size, 2, none⟩ (.slice B2 n2 k2)).setCell ⟨w.heap.size, 3, none⟩ (.int .i64 f3)).setCell ⟨w.heap.size, 4, none⟩ (.slice B4 n4 k4)).setCell ⟨w.heap.size, 5, none⟩ (.int .i64 f5)).setCell ⟨w.heap.size, 6, none⟩ (.slice B6 n6 k6))) := Lib.hid (HB.out.trans (hT.below (fun b h => by rw [h]; omega) HB.out.size))
    clear hT
    go_upto_region 2 with (fail)
    clear zl0 zl1 zl2 zl3 zl4 zl5 zl6 fl
    clear zr0 zr1 zr2 zr3 zr4 zr5 zr6 fr
    have hsw2 : w1.heap.size ≤ (((((((w1.setCell ⟨w.heap.size, 0, none⟩ (.int .i64 f0)).setCell ⟨w.heap.size, 1, none⟩ (.bool f1)).setCell ⟨w.heap.size, 2, none⟩ (.slice B2 n2 k2)).setCell ⟨w.heap.size, 3, none⟩ (.int .i64 f3)).setCell ⟨w.heap.size, 4, none⟩ (.slice B4 n4 k4)).setCell ⟨w.heap.size, 5, none⟩ (.int .i64 f5)).setCell ⟨w.heap.size, 6, none⟩ (.slice B6 n6 k6)).heap.size := by (first | (simp; done) | (simp only [World.size_alloc, World.size_setCell]; omega))
    generalize (((((((w1.setCell ⟨w.heap.size, 0, none⟩ (.int .i64 f0)).setCell ⟨w.heap.size, 1, none⟩ (.bool f1)).setCell ⟨w.heap.size, 2, none⟩ (.slice B2 n2 k2)).setCell ⟨w.heap.size, 3, none⟩ (.int .i64 f3)).setCell ⟨w.heap.size, 4, none⟩ (.slice B4 n4 k4)).setCell ⟨w.heap.size, 5, none⟩ (.int .i64 f5)).setCell ⟨w.heap.size, 6, none⟩ (.slice B6 n6 k6)) = w2 at *
    obtain ⟨zl0, zl1, zl2, zl3, zl4, zl5, zl6, fl⟩ := Zl.out.c7
    obtain ⟨zr0, zr1, zr2, zr3, zr4, zr5, zr6, fr⟩ := Zr.out.c7
    go_wp2_with fail
    refine (implPlP L2 B2 n2 k2 x _ G2.out.owns.lies HT2.out hn2).mono ?_
    rintro e w3 ⟨rfl, hb⟩
    clear zl0 zl1 zl2 zl3 zl4 zl5 zl6 fl
    clear zr0 zr1 zr2 zr3 zr4 zr5 zr6 fr
    replace Zl : Hid (Zx (w.heap.size) [.int .i64 f0, .bool f1, .slice B2 n2 k2, .int .i64 f3, .slice B4 n4 k4, .int .i64 f5, .slice B6 n6 k6] w3) := Lib.hid (Zl.out.below hb)
    replace Zr : Hid (Zx (w.heap.size + 1) [.int .i64 0, .bool false, .slice none 0 0, .int .i64 0, .slice none 0 0, .int .i64 0, .slice none 0 0] w3) := Lib.hid (Zr.out.below hb)
    replace G2 : Hid (Grow 54 3 (w.heap.size + 1 + 1) w3 B2 n2 k2 L2 (fun _ => False)) := Lib.hid (G2.out.below hb)
    replace G4 : Hid (Grow 60 2 (w.heap.size + 1 + 1) w3 B4 n4 k4 L4 (fun _ => False)) := Lib.hid (G4.out.below hb)
    replace G6 : Hid (Grow 60 2 (w.heap.size + 1 + 1) w3 B6 n6 k6 L6 (fun _ => False)) := Lib.hid (G6.out.below hb)
    replace HB : Hid (Below w.heap.size w w3) := Lib.hid (HB.out.trans (hb.mono HB.out.size))
    have hsw3 : w2.heap.size ≤ w3.heap.size := (by have h1 := hb.size; (try simp only [World.size_alloc, World.size_setCell] at h1); exact h1)
    clear hb
    rw [HI.out]
    obtain ⟨zl0, zl1, zl2, zl3, zl4, zl5, zl6, fl⟩ := Zl.out.c7
    obtain ⟨zr0, zr1, zr2, zr3, zr4, zr5, zr6, fr⟩ := Zr.out.c7
    go_wp2_with fail
    refine bodyPost_ret (v := .agg #[.int .i64 f0, .bool f1, .slice B2 n2 k2, .int .i64 f3, .slice B4 n4 k4, .int .i64 f5, .slice B6 n6 k6]) ?hres rfl ?hpost
    case hres =>
      refine results_box rfl _ _ (w.heap.size + 1) [.int .i64 f0, .bool f1, .slice B2 n2 k2, .int .i64 f3, .slice B4 n4 k4, .int .i64 f5, .slice B6 n6 k6] _ rfl ?_ Try.underlying27 rfl (by kernel_rfl)
      refine Zx.box ?_
      repeat (first | with_reducible exact Zr.out | with_reducible refine Zx.drewB ?_ | with_reducible apply Zx.put7)
    case hpost =>
      suffices h9 : ∀ w' : World, Touch (fun b => b = w.heap.size + 1) w3 w' → GivesL f0 f1 (relX x y L2) (relX x y L2).length f3 L4 n4 f5 L6 n6 w (.returned (.agg #[.int .i64 f0, .bool f1, .slice B2 n2 k2, .int .i64 f3, .slice B4 n4 k4, .int .i64 f5, .slice B6 n6 k6])) w' from h9 _ (by repeat (first | with_reducible exact Touch.refl _ _ | with_reducible refine Touch.drew ?_ | with_reducible refine Touch.put7 ?_ (Eq.refl _)))
      intro w' hT9
      obtain ⟨hL9, hB9⟩ := Link3.fin (W := w) (g := w.heap.size + 1) G2.out G4.out G6.out P24.out P26.out P46.out hT9 HB.out (by omega) (by omega)
      exact GivesL.of ⟨_, _, _, _, _, _, rfl, hL9, hB9⟩ E1.out E2.out
  · obtain ⟨a, b9, c, rfl⟩ := x3_of (ht2 d (List.mem_of_getElem? h2))
    have HI := Lib.hid h1
    have HD := Lib.hid h2
    have H3 := Lib.hid h3
    have H5 := Lib.hid h5
    have hil : i < n2 := by have := HC2.out; omega
    clear h1 h2 h3 h4 h5
    by_cases hy1 : y < 1
    · have E1 : Hid (L2 = relX x y L2) := Lib.hid (relX_few hy1).symm
      have E2 : Hid (n2 = (relX x y L2).length) := Lib.hid (by rw [relX_few hy1, HC2.out])
      have HL2 := Lib.hid hl2
      have HT2 := Lib.hid ht2
      have HL4 := Lib.hid hl4
      have HT4 := Lib.hid ht4
      have HL6 := Lib.hid hl6
      have HT6 := Lib.hid ht6
      clear hl2 hl4 hl6 ht2 ht4 ht6
      obtain ⟨i0, hi, hz0, hz1, hz2⟩ := info_parts infoExport
      obtain ⟨i1, hj, hy0, hy1, hy2⟩ := info_parts infoQuestion
      have HB : Hid (Below w.heap.size w w) := Lib.hid (Below.refl _ _)
      have Zl : Hid (Zx (w.heap.size) [.int .i64 f0, .bool f1, .slice A2 n2 c2, .int .i64 f3, .slice A4 n4 c4, .int .i64 f5, .slice A6 n6 c6] (w.alloc (.cells #[.int .i64 f0, .bool f1, .slice A2 n2 c2, .int .i64 f3, .slice A4 n4 c4, .int .i64 f5, .slice A6 n6 c6] 27))) := Lib.hid (Zx.new _ _ _)
      replace HB : Hid (Below w.heap.size w (w.alloc (.cells #[.int .i64 f0, .bool f1, .slice A2 n2 c2, .int .i64 f3, .slice A4 n4 c4, .int .i64 f5, .slice A6 n6 c6] 27))) := Lib.hid (HB.out.alloc HB.out.size _)
      replace Zl : Hid (Zx (w.heap.size) [.int .i64 f0, .bool f1, .slice A2 n2 c2, .int .i64 f3, .slice A4 n4 c4, .int .i64 f5, .slice A6 n6 c6] ((w.alloc (.cells #[.int .i64 f0, .bool f1, .slice A2 n2 c2, .int .i64 f3, .slice A4 n4 c4, .int .i64 f5, .slice A6 n6 c6] 27)).alloc (.cells #[.int .i64 0, .bool false, .slice none 0 0, .int .i64 0, .slice none 0 0, .int .i64 0, .slice none 0 0] 27))) := Lib.hid (Zl.out.below ((Below.refl _ _).alloc (Nat.le_refl _) _))
      have Zr : Hid (Zx (w.heap.size + 1) [.int .i64 0, .bool false, .slice none 0 0, .int .i64 0, .slice none 0 0, .int .i64 0, .slice none 0 0] ((w.alloc (.cells #[.int .i64 f0, .bool f1, .slice A2 n2 c2, .int .i64 f3, .slice A4 n4 c4, .int .i64 f5, .slice A6 n6 c6] 27)).alloc (.cells #[.int .i64 0, .bool false, .slice none 0 0, .int .i64 0, .slice none 0 0, .int .i64 0, .slice none 0 0] 27))) := Lib.hid (by have h1 := Zx.new (w.alloc (.cells #[.int .i64 f0, .bool f1, .slice A2 n2 c2, .int .i64 f3, .slice A4 n4 c4, .int .i64 f5, .slice A6 n6 c6] 27)) #[.int .i64 0, .bool false, .slice none 0 0, .int .i64 0, .slice none 0 0, .int .i64 0, .slice none 0 0] 27; (try simp only [World.size_alloc, World.size_setCell] at h1); exact h1)
      replace HB : Hid (Below w.heap.size w ((w.alloc (.cells #[.int .i64 f0, .bool f1, .slice A2 n2 c2, .int .i64 f3, .slice A4 n4 c4, .int .i64 f5, .slice A6 n6 c6] 27)).alloc (.cells #[.int .i64 0, .bool false, .slice none 0 0, .int .i64 0, .slice none 0 0, .int .i64 0, .slice none 0 0] 27))) := Lib.hid (HB.out.alloc HB.out.size _)
      go_enter Try.func18, Try.ntmps18
      go_wp2_with fail
      refine (implCopy f0 f1 L2 A2 n2 c2 f3 L4 A4 n4 c4 f5 L6 A6 n6 c6 _ (HL2.out.below HB.out) HT2.out (HL4.out.below HB.out) HT4.out (HL6.out.below HB.out) HT6.out hn2 hn4 hn6).mono ?_
      rintro e w1 ⟨B2, k2, B4, k4, B6, k6, rfl, hK, hb⟩
      replace Zl : Hid (Zx (w.heap.size) [.int .i64 f0, .bool f1, .slice A2 n2 c2, .int .i64 f3, .slice A4 n4 c4, .int .i64 f5, .slice A6 n6 c6] w1) := Lib.hid (Zl.out.below hb)
      replace Zr : Hid (Zx (w.heap.size + 1) [.int .i64 0, .bool false, .slice none 0 0, .int .i64 0, .slice none 0 0, .int .i64 0, .slice none 0 0] w1) := Lib.hid (Zr.out.below hb)
      replace HB : Hid (Below w.heap.size w w1) := Lib.hid (HB.out.trans (hb.mono HB.out.size))
      have hsw1 : w.heap.size + 1 + 1 ≤ w1.heap.size := (by have h1 := hb.size; (try simp only [World.size_alloc, World.size_setCell] at h1); exact h1)
      have G2 : Hid (Grow 54 3 (w.heap.size + 1 + 1) w1 B2 n2 k2 L2 (fun _ => False)) := Lib.hid (by have h1 := hK.g2; (try simp only [World.size_alloc] at h1); exact h1)
      have G4 : Hid (Grow 60 2 (w.heap.size + 1 + 1) w1 B4 n4 k4 L4 (fun _ => False)) := Lib.hid (by have h1 := hK.g4; (try simp only [World.size_alloc] at h1); exact h1)
      have G6 : Hid (Grow 60 2 (w.heap.size + 1 + 1) w1 B6 n6 k6 L6 (fun _ => False)) := Lib.hid (by have h1 := hK.g6; (try simp only [World.size_alloc] at h1); exact h1)
      have P24 := Lib.hid hK.p24
      have P26 := Lib.hid hK.p26
      have P46 := Lib.hid hK.p46
      clear hK hb
      obtain ⟨zl0, zl1, zl2, zl3, zl4, zl5, zl6, fl⟩ := Zl.out.c7
      obtain ⟨zr0, zr1, zr2, zr3, zr4, zr5, zr6, fr⟩ := Zr.out.c7
      have hT : Touch (fun b => b = w.heap.size) w1 (((((((w1.setCell ⟨w.heap.size, 0, none⟩ (.int .i64 f0)).setCell ⟨w.heap.size, 1, none⟩ (.bool f1)).setCell ⟨w.heap.size, 2, none⟩ (.slice B2 n2 k2)).setCell ⟨w.heap.size, 3, none⟩ (.int .i64 f3)).setCell ⟨w.heap.size, 4, none⟩ (.slice B4 n4 k4)).setCell ⟨w.heap.size, 5, none⟩ (.int .i64 f5)).setCell ⟨w.heap.size, 6, none⟩ (.slice B6 n6 k6)) := (((((((Touch.refl (fun b => b = w.heap.size) w1).setCell (p := ⟨w.heap.size, 0, none⟩) rfl (.int .i64 f0)).setCell (p := ⟨w.heap.size, 1, none⟩) rfl (.bool f1)).setCell (p := ⟨w.heap.size, 2, none⟩) rfl (.slice B2 n2 k2)).setCell (p := ⟨w.heap.size, 3, none⟩) rfl (.int .i64 f3)).setCell (p := ⟨w.heap.size, 4, none⟩) rfl (.slice B4 n4 k4)).setCell (p := ⟨w.heap.size, 5, none⟩) rfl (.int .i64 f5)).setCell (p := ⟨w.heap.size, 6, none⟩) rfl (.slice B6 n6 k6)
      replace Zr : Hid (Zx (w.heap.size + 1) [.int .i64 0, .bool false, .slice none 0 0, .int .i64 0, .slice none 0 0, .int .i64 0, .slice none 0 0] (((((((w1.setCell ⟨w.heap.size, 0, none⟩ (.int .i64 f0)).setCell ⟨w.heap.size, 1, none⟩ (.bool f1)).setCell ⟨w.heap.size, 2, none⟩ (.slice B2 n2 k2)).setCell ⟨w.heap.size, 3, none⟩ (.int .i64 f3)).setCell ⟨w.heap.size, 4, none⟩ (.slice B4 n4 k4)).setCell ⟨w.heap.size, 5, none⟩ (.int .i64 f5)).setCell ⟨w.heap.size, 6, none⟩ (.slice B6 n6 k6))) := Lib.hid (Zr.out.touch hT (by have h1 := HB.out.size; omega))
      replace G2 : Hid (Grow 54 3 (w.heap.size + 1 + 1) (((((((w1.setCell ⟨w.heap.size, 0, none⟩ (.int .i64 f0)).setCell ⟨w.heap.size, 1, none⟩ (.bool f1)).setCell ⟨w.heap.size, 2, none⟩ (.slice B2 n2 k2)).setCell ⟨w.heap.size, 3, none⟩ (.int .i64 f3)).setCell ⟨w.heap.size, 4, none⟩ (.slice B4 n4 k4)).setCell ⟨w.heap.size, 5, none⟩ (.int .i64 f5)).setCell ⟨w.heap.size, 6, none⟩ (.slice B6 n6 k6)) B2 n2 k2 L2 (fun _ => False)) := Lib.hid (G2.out.touch hT (fun a e h => by have h1 := (G2.out.blkF a e).1; have h2 := HB.out.size; omega) (fun _ h => h.elim))
      replace G4 : Hid (Grow 60 2 (w.heap.size + 1 + 1) (((((((w1.setCell ⟨w.heap.size, 0, none⟩ (.int .i64 f0)).setCell ⟨w.heap.size, 1, none⟩ (.bool f1)).setCell ⟨w.heap.size, 2, none⟩ (.slice B2 n2 k2)).setCell ⟨w.heap.size, 3, none⟩ (.int .i64 f3)).setCell ⟨w.heap.size, 4, none⟩ (.slice B4 n4 k4)).setCell ⟨w.heap.size, 5, none⟩ (.int .i64 f5)).setCell ⟨w.heap.size, 6, none⟩ (.slice B6 n6 k6)) B4 n4 k4 L4 (fun _ => False)) := Lib.hid (G4.out.touch hT (fun a e h => by have h1 := (G4.out.blkF a e).1; have h2 := HB.out.size; omega) (fun _ h => h.elim))
      replace G6 : Hid (Grow 60 2 (w.heap.size + 1 + 1) (((((((w1.setCell ⟨w.heap.size, 0, none⟩ (.int .i64 f0)).setCell ⟨w.heap.size, 1, none⟩ (.bool f1)).setCell ⟨w.heap.size, 2, none⟩ (.slice B2 n2 k2)).setCell ⟨w.heap.size, 3, none⟩ (.int .i64 f3)).setCell ⟨w.heap.size, 4, none⟩ (.slice B4 n4 k4)).setCell ⟨w.heap.size, 5, none⟩ (.int .i64 f5)).setCell ⟨w.heap.size, 6, none⟩ (.slice B6 n6 k6)) B6 n6 k6 L6 (fun _ => False)) := Lib.hid (G6.out.touch hT (fun a e h => by have h1 := (G6.out.blkF a e).1; have h2 := HB.out.size; omega) (fun _ h => h.elim))
      replace Zl : Hid (Zx (w.heap.size) [.int .i64 f0, .bool f1, .slice B2 n2 k2, .int .i64 f3, .slice B4 n4 k4, .int .i64 f5, .slice B6 n6 k6] (((((((w1.setCell ⟨w.heap.size, 0, none⟩ (.int .i64 f0)).setCell ⟨w.heap.size, 1, none⟩ (.bool f1)).setCell ⟨w.heap.size, 2, none⟩ (.slice B2 n2 k2)).setCell ⟨w.heap.size, 3, none⟩ (.int .i64 f3)).setCell ⟨w.heap.size, 4, none⟩ (.slice B4 n4 k4)).setCell ⟨w.heap.size, 5, none⟩ (.int .i64 f5)).setCell ⟨w.heap.size, 6, none⟩ (.slice B6 n6 k6))) := Lib.hid (((((((Zl.out.put 0 (.int .i64 f0)).put 1 (.bool f1)).put 2 (.slice B2 n2 k2)).put 3 (.int .i64 f3)).put 4 (.slice B4 n4 k4)).put 5 (.int .i64 f5)).put 6 (.slice B6 n6 k6))
      replace HB : Hid (Below w.heap.size w (((((((w1.setCell ⟨w.heap.size, 0, none⟩ (.int .i64 f0)).setCell ⟨w.heap.size, 1, none⟩ (.bool f1)).setCell ⟨w.heap.size, 2, none⟩ (.slice B2 n2 k2)).setCell ⟨w.heap.size, 3, none⟩ (.int .i64 f3)).setCell ⟨w.heap.size, 4, none⟩ (.slice B4 n4 k4)).setCell ⟨w.heap.size, 5, none⟩ (.int .i64 f5)).setCell ⟨w.heap.size, 6, none⟩ (.slice B6 n6 k6))) := Lib.hid (HB.out.trans (hT.below (fun b h => by rw [h]; omega) HB.out.size))
      clear hT
      go_upto_region 2 with (fail)
      clear zl0 zl1 zl2 zl3 zl4 zl5 zl6 fl
      clear zr0 zr1 zr2 zr3 zr4 zr5 zr6 fr
      have hsw2 : w1.heap.size ≤ (((((((w1.setCell ⟨w.heap.size, 0, none⟩ (.int .i64 f0)).setCell ⟨w.heap.size, 1, none⟩ (.bool f1)).setCell ⟨w.heap.size, 2, none⟩ (.slice B2 n2 k2)).setCell ⟨w.heap.size, 3, none⟩ (.int .i64 f3)).setCell ⟨w.heap.size, 4, none⟩ (.slice B4 n4 k4)).setCell ⟨w.heap.size, 5, none⟩ (.int .i64 f5)).setCell ⟨w.heap.size, 6, none⟩ (.slice B6 n6 k6)).heap.size := by (first | (simp; done) | (simp only [World.size_alloc, World.size_setCell]; omega))
      generalize (((((((w1.setCell ⟨w.heap.size, 0, none⟩ (.int .i64 f0)).setCell ⟨w.heap.size, 1, none⟩ (.bool f1)).setCell ⟨w.heap.size, 2, none⟩ (.slice B2 n2 k2)).setCell ⟨w.heap.size, 3, none⟩ (.int .i64 f3)).setCell ⟨w.heap.size, 4, none⟩ (.slice B4 n4 k4)).setCell ⟨w.heap.size, 5, none⟩ (.int .i64 f5)).setCell ⟨w.heap.size, 6, none⟩ (.slice B6 n6 k6)) = w2 at *
      obtain ⟨zl0, zl1, zl2, zl3, zl4, zl5, zl6, fl⟩ := Zl.out.c7
      obtain ⟨zr0, zr1, zr2, zr3, zr4, zr5, zr6, fr⟩ := Zr.out.c7
      go_wp2_with fail
      refine (implPlP L2 B2 n2 k2 x _ G2.out.owns.lies HT2.out hn2).mono ?_
      rintro e w3 ⟨rfl, hb⟩
      clear zl0 zl1 zl2 zl3 zl4 zl5 zl6 fl
      clear zr0 zr1 zr2 zr3 zr4 zr5 zr6 fr
      replace Zl : Hid (Zx (w.heap.size) [.int .i64 f0, .bool f1, .slice B2 n2 k2, .int .i64 f3, .slice B4 n4 k4, .int .i64 f5, .slice B6 n6 k6] w3) := Lib.hid (Zl.out.below hb)
      replace Zr : Hid (Zx (w.heap.size + 1) [.int .i64 0, .bool false, .slice none 0 0, .int .i64 0, .slice none 0 0, .int .i64 0, .slice none 0 0] w3) := Lib.hid (Zr.out.below hb)
      replace G2 : Hid (Grow 54 3 (w.heap.size + 1 + 1) w3 B2 n2 k2 L2 (fun _ => False)) := Lib.hid (G2.out.below hb)
      replace G4 : Hid (Grow 60 2 (w.heap.size + 1 + 1) w3 B4 n4 k4 L4 (fun _ => False)) := Lib.hid (G4.out.below hb)
      replace G6 : Hid (Grow 60 2 (w.heap.size + 1 + 1) w3 B6 n6 k6 L6 (fun _ => False)) := Lib.hid (G6.out.below hb)
      replace HB : Hid (Below w.heap.size w w3) := Lib.hid (HB.out.trans (hb.mono HB.out.size))
      have hsw3 : w2.heap.size ≤ w3.heap.size := (by have h1 := hb.size; (try simp only [World.size_alloc, World.size_setCell] at h1); exact h1)
      clear hb
      rw [HI.out]
      obtain ⟨zl0, zl1, zl2, zl3, zl4, zl5, zl6, fl⟩ := Zl.out.c7
      obtain ⟨zr0, zr1, zr2, zr3, zr4, zr5, zr6, fr⟩ := Zr.out.c7
      have hlt0 : (decide ((i : Int) < 0)) = false := (by simp; try omega)
      have hy0 : (decide (y < 1)) = true := (by simp; omega)
      go_wp2_with fail
      refine bodyPost_ret (v := .agg #[.int .i64 f0, .bool f1, .slice B2 n2 k2, .int .i64 f3, .slice B4 n4 k4, .int .i64 f5, .slice B6 n6 k6]) ?hres rfl ?hpost
      case hres =>
        refine results_box rfl _ _ (w.heap.size + 1) [.int .i64 f0, .bool f1, .slice B2 n2 k2, .int .i64 f3, .slice B4 n4 k4, .int .i64 f5, .slice B6 n6 k6] _ rfl ?_ Try.underlying27 rfl (by kernel_rfl)
        refine Zx.box ?_
        repeat (first | with_reducible exact Zr.out | with_reducible refine Zx.drewB ?_ | with_reducible apply Zx.put7)
      case hpost =>
        suffices h9 : ∀ w' : World, Touch (fun b => b = w.heap.size + 1) w3 w' → GivesL f0 f1 (relX x y L2) (relX x y L2).length f3 L4 n4 f5 L6 n6 w (.returned (.agg #[.int .i64 f0, .bool f1, .slice B2 n2 k2, .int .i64 f3, .slice B4 n4 k4, .int .i64 f5, .slice B6 n6 k6])) w' from h9 _ (by repeat (first | with_reducible exact Touch.refl _ _ | with_reducible refine Touch.drew ?_ | with_reducible refine Touch.put7 ?_ (Eq.refl _)))
        intro w' hT9
        obtain ⟨hL9, hB9⟩ := Link3.fin (W := w) (g := w.heap.size + 1) G2.out G4.out G6.out P24.out P26.out P46.out hT9 HB.out (by omega) (by omega)
        exact GivesL.of ⟨_, _, _, _, _, _, rfl, hL9, hB9⟩ E1.out E2.out
    · by_cases hcl : wrap64 (c - y) < 1
      · skip
        have HL2 := Lib.hid hl2
        have HT2 := Lib.hid ht2
        have HL4 := Lib.hid hl4
        have HT4 := Lib.hid ht4
        have HL6 := Lib.hid hl6
        have HT6 := Lib.hid ht6
        clear hl2 hl4 hl6 ht2 ht4 ht6
        obtain ⟨i0, hi, hz0, hz1, hz2⟩ := info_parts infoExport
        obtain ⟨i1, hj, hy0, hy1, hy2⟩ := info_parts infoQuestion
        have HB : Hid (Below w.heap.size w w) := Lib.hid (Below.refl _ _)
        have Zl : Hid (Zx (w.heap.size) [.int .i64 f0, .bool f1, .slice A2 n2 c2, .int .i64 f3, .slice A4 n4 c4, .int .i64 f5, .slice A6 n6 c6] (w.alloc (.cells #[.int .i64 f0, .bool f1, .slice A2 n2 c2, .int .i64 f3, .slice A4 n4 c4, .int .i64 f5, .slice A6 n6 c6] 27))) := Lib.hid (Zx.new _ _ _)
        replace HB : Hid (Below w.heap.size w (w.alloc (.cells #[.int .i64 f0, .bool f1, .slice A2 n2 c2, .int .i64 f3, .slice A4 n4 c4, .int .i64 f5, .slice A6 n6 c6] 27))) := Lib.hid (HB.out.alloc HB.out.size _)
        replace Zl : Hid (Zx (w.heap.size) [.int .i64 f0, .bool f1, .slice A2 n2 c2, .int .i64 f3, .slice A4 n4 c4, .int .i64 f5, .slice A6 n6 c6] ((w.alloc (.cells #[.int .i64 f0, .bool f1, .slice A2 n2 c2, .int .i64 f3, .slice A4 n4 c4, .int .i64 f5, .slice A6 n6 c6] 27)).alloc (.cells #[.int .i64 0, .bool false, .slice none 0 0, .int .i64 0, .slice none 0 0, .int .i64 0, .slice none 0 0] 27))) := Lib.hid (Zl.out.below ((Below.refl _ _).alloc (Nat.le_refl _) _))
        have Zr : Hid (Zx (w.heap.size + 1) [.int .i64 0, .bool false, .slice none 0 0, .int .i64 0, .slice none 0 0, .int .i64 0, .slice none 0 0] ((w.alloc (.cells #[.int .i64 f0, .bool f1, .slice A2 n2 c2, .int .i64 f3, .slice A4 n4 c4, .int .i64 f5, .slice A6 n6 c6] 27)).alloc (.cells #[.int .i64 0, .bool false, .slice none 0 0, .int .i64 0, .slice none 0 0, .int .i64 0, .slice none 0 0] 27))) := Lib.hid (by have h1 := Zx.new (w.alloc (.cells #[.int .i64 f0, .bool f1, .slice A2 n2 c2, .int .i64 f3, .slice A4 n4 c4, .int .i64 f5, .slice A6 n6 c6] 27)) #[.int .i64 0, .bool false, .slice none 0 0, .int .i64 0, .slice none 0 0, .int .i64 0, .slice none 0 0] 27; (try simp only [World.size_alloc, World.size_setCell] at h1); exact h1)
        replace HB : Hid (Below w.heap.size w ((w.alloc (.cells #[.int .i64 f0, .bool f1, .slice A2 n2 c2, .int .i64 f3, .slice A4 n4 c4, .int .i64 f5, .slice A6 n6 c6] 27)).alloc (.cells #[.int .i64 0, .bool false, .slice none 0 0, .int .i64 0, .slice none 0 0, .int .i64 0, .slice none 0 0] 27))) := Lib.hid (HB.out.alloc HB.out.size _)
        go_enter Try.func18, Try.ntmps18
        go_wp2_with fail
        refine (implCopy f0 f1 L2 A2 n2 c2 f3 L4 A4 n4 c4 f5 L6 A6 n6 c6 _ (HL2.out.below HB.out) HT2.out (HL4.out.below HB.out) HT4.out (HL6.out.below HB.out) HT6.out hn2 hn4 hn6).mono ?_
        rintro e w1 ⟨B2, k2, B4, k4, B6, k6, rfl, hK, hb⟩
        replace Zl : Hid (Zx (w.heap.size) [.int .i64 f0, .bool f1, .slice A2 n2 c2, .int .i64 f3, .slice A4 n4 c4, .int .i64 f5, .slice A6 n6 c6] w1) := Lib.hid (Zl.out.below hb)
        replace Zr : Hid (Zx (w.heap.size + 1) [.int .i64 0, .bool false, .slice none 0 0, .int .i64 0, .slice none 0 0, .int .i64 0, .slice none 0 0] w1) := Lib.hid (Zr.out.below hb)
        replace HB : Hid (Below w.heap.size w w1) := Lib.hid (HB.out.trans (hb.mono HB.out.size))
        have hsw1 : w.heap.size + 1 + 1 ≤ w1.heap.size := (by have h1 := hb.size; (try simp only [World.size_alloc, World.size_setCell] at h1); exact h1)
        have G2 : Hid (Grow 54 3 (w.heap.size + 1 + 1) w1 B2 n2 k2 L2 (fun _ => False)) := Lib.hid (by have h1 := hK.g2; (try simp only [World.size_alloc] at h1); exact h1)
        have G4 : Hid (Grow 60 2 (w.heap.size + 1 + 1) w1 B4 n4 k4 L4 (fun _ => False)) := Lib.hid (by have h1 := hK.g4; (try simp only [World.size_alloc] at h1); exact h1)
        have G6 : Hid (Grow 60 2 (w.heap.size + 1 + 1) w1 B6 n6 k6 L6 (fun _ => False)) := Lib.hid (by have h1 := hK.g6; (try simp only [World.size_alloc] at h1); exact h1)
        have P24 := Lib.hid hK.p24
        have P26 := Lib.hid hK.p26
        have P46 := Lib.hid hK.p46
        clear hK hb
        obtain ⟨zl0, zl1, zl2, zl3, zl4, zl5, zl6, fl⟩ := Zl.out.c7
        obtain ⟨zr0, zr1, zr2, zr3, zr4, zr5, zr6, fr⟩ := Zr.out.c7
        have hT : Touch (fun b => b = w.heap.size) w1 (((((((w1.setCell ⟨w.heap.size, 0, none⟩ (.int .i64 f0)).setCell ⟨w.heap.size, 1, none⟩ (.bool f1)).setCell ⟨w.heap.size, 2, none⟩ (.slice B2 n2 k2)).setCell ⟨w.heap.size, 3, none⟩ (.int .i64 f3)).setCell ⟨w.heap.size, 4, none⟩ (.slice B4 n4 k4)).setCell ⟨w.heap.size, 5, none⟩ (.int .i64 f5)).setCell ⟨w.heap.size, 6, none⟩ (.slice B6 n6 k6)) := (((((((Touch.refl (fun b => b = w.heap.size) w1).setCell (p := ⟨w.heap.size, 0, none⟩) rfl (.int .i64 f0)).setCell (p := ⟨w.heap.size, 1, none⟩) rfl (.bool f1)).setCell (p := ⟨w.heap.size, 2, none⟩) rfl (.slice B2 n2 k2)).setCell (p := ⟨w.heap.size, 3, none⟩) rfl (.int .i64 f3)).setCell (p := ⟨w.heap.size, 4, none⟩) rfl (.slice B4 n4 k4)).setCell (p := ⟨w.heap.size, 5, none⟩) rfl (.int .i64 f5)).setCell (p := ⟨w.heap.size, 6, none⟩) rfl (.slice B6 n6 k6)
        replace Zr : Hid (Zx (w.heap.size + 1) [.int .i64 0, .bool false, .slice none 0 0, .int .i64 0, .slice none 0 0, .int .i64 0, .slice none 0 0] (((((((w1.setCell ⟨w.heap.size, 0, none⟩ (.int .i64 f0)).setCell ⟨w.heap.size, 1, none⟩ (.bool f1)).setCell ⟨w.heap.size, 2, none⟩ (.slice B2 n2 k2)).setCell ⟨w.heap.size, 3, none⟩ (.int .i64 f3)).setCell ⟨w.heap.size, 4, none⟩ (.slice B4 n4 k4)).setCell ⟨w.heap.size, 5, none⟩ (.int .i64 f5)).setCell ⟨w.heap.size, 6, none⟩ (.slice B6 n6 k6))) := Lib.hid (Zr.out.touch hT (by have h1 := HB.out.size; omega))
        replace G2 : Hid (Grow 54 3 (w.heap.size + 1 + 1) (((((((w1.setCell ⟨w.heap.size, 0, none⟩ (.int .i64 f0)).setCell ⟨w.heap.size, 1, none⟩ (.bool f1)).setCell ⟨w.heap.size, 2, none⟩ (.slice B2 n2 k2)).setCell ⟨w.heap.size, 3, none⟩ (.int .i64 f3)).setCell ⟨w.heap.size, 4, none⟩ (.slice B4 n4 k4)).setCell ⟨w.heap.size, 5, none⟩ (.int .i64 f5)).setCell ⟨w.heap.size, 6, none⟩ (.slice B6 n6 k6)) B2 n2 k2 L2 (fun _ => False)) := Lib.hid (G2.out.touch hT (fun a e h => by have h1 := (G2.out.blkF a e).1; have h2 := HB.out.size; omega) (fun _ h => h.elim))
        replace G4 : Hid (Grow 60 2 (w.heap.size + 1 + 1) (((((((w1.setCell ⟨w.heap.size, 0, none⟩ (.int .i64 f0)).setCell ⟨w.heap.size, 1, none⟩ (.bool f1)).setCell ⟨w.heap.size, 2, none⟩ (.slice B2 n2 k2)).setCell ⟨w.heap.size, 3, none⟩ (.int .i64 f3)).setCell ⟨w.heap.size, 4, none⟩ (.slice B4 n4 k4)).setCell ⟨w.heap.size, 5, none⟩ (.int .i64 f5)).setCell ⟨w.heap.size, 6, none⟩ (.slice B6 n6 k6)) B4 n4 k4 L4 (fun _ => False)) := Lib.hid (G4.out.touch hT (fun a e h => by have h1 := (G4.out.blkF a e).1; have h2 := HB.out.size; omega) (fun _ h => h.elim))
        replace G6 : Hid (Grow 60 2 (w.heap.size + 1 + 1) (((((((w1.setCell ⟨w.heap.size, 0, none⟩ (.int .i64 f0)).setCell ⟨w.heap.size, 1, none⟩ (.bool f1)).setCell ⟨w.heap.size, 2, none⟩ (.slice B2 n2 k2)).setCell ⟨w.heap.size, 3, none⟩ (.int .i64 f3)).setCell ⟨w.heap.size, 4, none⟩ (.slice B4 n4 k4)).setCell ⟨w.heap.size, 5, none⟩ (.int .i64 f5)).setCell ⟨w.heap.size, 6, none⟩ (.slice B6 n6 k6)) B6 n6 k6 L6 (fun _ => False)) := Lib.hid (G6.out.touch hT (fun a e h => by have h1 := (G6.out.blkF a e).1; have h2 := HB.out.size; omega) (fun _ h => h.elim))
        replace Zl : Hid (Zx (w.heap.size) [.int .i64 f0, .bool f1, .slice B2 n2 k2, .int .i64 f3, .slice B4 n4 k4, .int .i64 f5, .slice B6 n6 k6] (((((((w1.setCell ⟨w.heap.size, 0, none⟩ (.int .i64 f0)).setCell ⟨w.heap.size, 1, none⟩ (.bool f1)).setCell ⟨w.heap.size, 2, none⟩ (.slice B2 n2 k2)).setCell ⟨w.heap.size, 3, none⟩ (.int .i64 f3)).setCell ⟨w.heap.size, 4, none⟩ (.slice B4 n4 k4)).setCell ⟨w.heap.size, 5, none⟩ (.int .i64 f5)).setCell ⟨w.heap.size, 6, none⟩ (.slice B6 n6 k6))) := Lib.hid (((((((Zl.out.put 0 (.int .i64 f0)).put 1 (.bool f1)).put 2 (.slice B2 n2 k2)).put 3 (.int .i64 f3)).put 4 (.slice B4 n4 k4)).put 5 (.int .i64 f5)).put 6 (.slice B6 n6 k6))
        replace HB : Hid (Below w.heap.size w (((((((w1.setCell ⟨w.heap.size, 0, none⟩ (.int .i64 f0)).setCell ⟨w.heap.size, 1, none⟩ (.bool f1)).setCell ⟨w.heap.size, 2, none⟩ (.slice B2 n2 k2)).setCell ⟨w.heap.size, 3, none⟩ (.int .i64 f3)).setCell ⟨w.heap.size, 4, none⟩ (.slice B4 n4 k4)).setCell ⟨w.heap.size, 5, none⟩ (.int .i64 f5)).setCell ⟨w.heap.size, 6, none⟩ (.slice B6 n6 k6))) := Lib.hid (HB.out.trans (hT.below (fun b h => by rw [h]; omega) HB.out.size))
        clear hT
        go_upto_region 2 with (fail)
        clear zl0 zl1 zl2 zl3 zl4 zl5 zl6 fl
        clear zr0 zr1 zr2 zr3 zr4 zr5 zr6 fr
        have hsw2 : w1.heap.size ≤ (((((((w1.setCell ⟨w.heap.size, 0, none⟩ (.int .i64 f0)).setCell ⟨w.heap.size, 1, none⟩ (.bool f1)).setCell ⟨w.heap.size, 2, none⟩ (.slice B2 n2 k2)).setCell ⟨w.heap.size, 3, none⟩ (.int .i64 f3)).setCell ⟨w.heap.size, 4, none⟩ (.slice B4 n4 k4)).setCell ⟨w.heap.size, 5, none⟩ (.int .i64 f5)).setCell ⟨w.heap.size, 6, none⟩ (.slice B6 n6 k6)).heap.size := by (first | (simp; done) | (simp only [World.size_alloc, World.size_setCell]; omega))
        generalize (((((((w1.setCell ⟨w.heap.size, 0, none⟩ (.int .i64 f0)).setCell ⟨w.heap.size, 1, none⟩ (.bool f1)).setCell ⟨w.heap.size, 2, none⟩ (.slice B2 n2 k2)).setCell ⟨w.heap.size, 3, none⟩ (.int .i64 f3)).setCell ⟨w.heap.size, 4, none⟩ (.slice B4 n4 k4)).setCell ⟨w.heap.size, 5, none⟩ (.int .i64 f5)).setCell ⟨w.heap.size, 6, none⟩ (.slice B6 n6 k6)) = w2 at *
        obtain ⟨zl0, zl1, zl2, zl3, zl4, zl5, zl6, fl⟩ := Zl.out.c7
        obtain ⟨zr0, zr1, zr2, zr3, zr4, zr5, zr6, fr⟩ := Zr.out.c7
        go_wp2_with fail
        refine (implPlP L2 B2 n2 k2 x _ G2.out.owns.lies HT2.out hn2).mono ?_
        rintro e w3 ⟨rfl, hb⟩
        clear zl0 zl1 zl2 zl3 zl4 zl5 zl6 fl
        clear zr0 zr1 zr2 zr3 zr4 zr5 zr6 fr
        replace Zl : Hid (Zx (w.heap.size) [.int .i64 f0, .bool f1, .slice B2 n2 k2, .int .i64 f3, .slice B4 n4 k4, .int .i64 f5, .slice B6 n6 k6] w3) := Lib.hid (Zl.out.below hb)
        replace Zr : Hid (Zx (w.heap.size + 1) [.int .i64 0, .bool false, .slice none 0 0, .int .i64 0, .slice none 0 0, .int .i64 0, .slice none 0 0] w3) := Lib.hid (Zr.out.below hb)
        replace G2 : Hid (Grow 54 3 (w.heap.size + 1 + 1) w3 B2 n2 k2 L2 (fun _ => False)) := Lib.hid (G2.out.below hb)
        replace G4 : Hid (Grow 60 2 (w.heap.size + 1 + 1) w3 B4 n4 k4 L4 (fun _ => False)) := Lib.hid (G4.out.below hb)
        replace G6 : Hid (Grow 60 2 (w.heap.size + 1 + 1) w3 B6 n6 k6 L6 (fun _ => False)) := Lib.hid (G6.out.below hb)
        replace HB : Hid (Below w.heap.size w w3) := Lib.hid (HB.out.trans (hb.mono HB.out.size))
        have hsw3 : w2.heap.size ≤ w3.heap.size := (by have h1 := hb.size; (try simp only [World.size_alloc, World.size_setCell] at h1); exact h1)
        clear hb
        rw [HI.out]
        obtain ⟨zl0, zl1, zl2, zl3, zl4, zl5, zl6, fl⟩ := Zl.out.c7
        obtain ⟨zr0, zr1, zr2, zr3, zr4, zr5, zr6, fr⟩ := Zr.out.c7
        have hlt0 : (decide ((i : Int) < 0)) = false := (by simp; try omega)
        have hy0 : (decide (y < 1)) = false := (by simp; omega)
        have NB2 : Hid (∀ a, B2 = some a → a.block < w3.heap.size) := Lib.hid (fun a e => (G2.out.blkF a e).2)
        have NB4 : Hid (∀ a, B4 = some a → a.block < w3.heap.size) := Lib.hid (fun a e => (G4.out.blkF a e).2)
        have NB6 : Hid (∀ a, B6 = some a → a.block < w3.heap.size) := Lib.hid (fun a e => (G6.out.blkF a e).2)
        go_wp2_with fail
        refine (implByPlace L2 B2 n2 k2 _ G2.out.owns.lies HT2.out hn2).mono ?_
        rintro e w4 ⟨b, DM, rfl, hbge, hm, hml, hb⟩
        clear zl0 zl1 zl2 zl3 zl4 zl5 zl6 fl
        clear zr0 zr1 zr2 zr3 zr4 zr5 zr6 fr
        replace Zl : Hid (Zx (w.heap.size) [.int .i64 f0, .bool f1, .slice B2 n2 k2, .int .i64 f3, .slice B4 n4 k4, .int .i64 f5, .slice B6 n6 k6] w4) := Lib.hid (Zl.out.below hb)
        replace Zr : Hid (Zx (w.heap.size + 1) [.int .i64 0, .bool false, .slice none 0 0, .int .i64 0, .slice none 0 0, .int .i64 0, .slice none 0 0] w4) := Lib.hid (Zr.out.below hb)
        replace G2 : Hid (Grow 54 3 (w.heap.size + 1 + 1) w4 B2 n2 k2 L2 (fun _ => False)) := Lib.hid (G2.out.below hb)
        replace G4 : Hid (Grow 60 2 (w.heap.size + 1 + 1) w4 B4 n4 k4 L4 (fun _ => False)) := Lib.hid (G4.out.below hb)
        replace G6 : Hid (Grow 60 2 (w.heap.size + 1 + 1) w4 B6 n6 k6 L6 (fun _ => False)) := Lib.hid (G6.out.below hb)
        replace HB : Hid (Below w.heap.size w w4) := Lib.hid (HB.out.trans (hb.mono HB.out.size))
        have hsw4 : w3.heap.size ≤ w4.heap.size := (by have h1 := hb.size; (try simp only [World.size_alloc, World.size_setCell] at h1); exact h1)
        have HM := Lib.hid hm
        have HML := Lib.hid hml
        have hblt := hm.lt
        clear hb hm hml
        have HKK := Lib.hid (key_of (j := i) (by omega))
        have HAT : Hid (DM.atKey (kl i) (.held (.agg #[.int .i64 0, .int .i64 0, .int .i64 0])) = .held (.agg #[.int .i64 a, .int .i64 b9, .int .i64 c])) := Lib.hid (HML.out.2 i _ (by rw [map_some_at, HD.out]; rfl) _)
        obtain ⟨zl0, zl1, zl2, zl3, zl4, zl5, zl6, fl⟩ := Zl.out.c7
        obtain ⟨zr0, zr1, zr2, zr3, zr4, zr5, zr6, fr⟩ := Zr.out.c7
        go_upto_region 7 with (first
          | (at_lookup; refine wpList_lookup_heldL rfl _ _ 55 rfl 54 (int_keyed Try.underlying3) Try.underlying55 (zeroX _) rfl HM.out _ (kl i) rfl HKK.out (.agg #[.int .i64 a, .int .i64 b9, .int .i64 c]) HAT.out ?_)
          | fail)
        clear zl0 zl1 zl2 zl3 zl4 zl5 zl6 fl
        clear zr0 zr1 zr2 zr3 zr4 zr5 zr6 fr
        clear HAT
        replace HM := Lib.hid (ownsMap_belowL HM.out ((Below.refl _ _).alloc (Nat.le_refl _) (.cells #[.int .i64 a, .int .i64 b9, .int .i64 c] 54)))
        replace Zl : Hid (Zx (w.heap.size) [.int .i64 f0, .bool f1, .slice B2 n2 k2, .int .i64 f3, .slice B4 n4 k4, .int .i64 f5, .slice B6 n6 k6] (w4.alloc (.cells #[.int .i64 a, .int .i64 b9, .int .i64 c] 54))) := Lib.hid (Zl.out.below ((Below.refl _ _).alloc (Nat.le_refl _) _))
        replace Zr : Hid (Zx (w.heap.size + 1) [.int .i64 0, .bool false, .slice none 0 0, .int .i64 0, .slice none 0 0, .int .i64 0, .slice none 0 0] (w4.alloc (.cells #[.int .i64 a, .int .i64 b9, .int .i64 c] 54))) := Lib.hid (Zr.out.below ((Below.refl _ _).alloc (Nat.le_refl _) _))
        replace G2 : Hid (Grow 54 3 (w.heap.size + 1 + 1) (w4.alloc (.cells #[.int .i64 a, .int .i64 b9, .int .i64 c] 54)) B2 n2 k2 L2 (fun _ => False)) := Lib.hid (G2.out.below ((Below.refl _ _).alloc (Nat.le_refl _) _))
        replace G4 : Hid (Grow 60 2 (w.heap.size + 1 + 1) (w4.alloc (.cells #[.int .i64 a, .int .i64 b9, .int .i64 c] 54)) B4 n4 k4 L4 (fun _ => False)) := Lib.hid (G4.out.below ((Below.refl _ _).alloc (Nat.le_refl _) _))
        replace G6 : Hid (Grow 60 2 (w.heap.size + 1 + 1) (w4.alloc (.cells #[.int .i64 a, .int .i64 b9, .int .i64 c] 54)) B6 n6 k6 L6 (fun _ => False)) := Lib.hid (G6.out.below ((Below.refl _ _).alloc (Nat.le_refl _) _))
        have Zq : Hid (Zx (w4.heap.size) [.int .i64 a, .int .i64 b9, .int .i64 c] (w4.alloc (.cells #[.int .i64 a, .int .i64 b9, .int .i64 c] 54))) := Lib.hid (Zx.new _ _ _)
        replace HB : Hid (Below w.heap.size w (w4.alloc (.cells #[.int .i64 a, .int .i64 b9, .int .i64 c] 54))) := Lib.hid (HB.out.alloc HB.out.size _)
        have hqb : b < w4.heap.size := hblt
        have hsw5 : w4.heap.size + 1 ≤ (w4.alloc (.cells #[.int .i64 a, .int .i64 b9, .int .i64 c] 54)).heap.size := by (first | (simp; done) | (simp only [World.size_alloc, World.size_setCell]; omega))
        generalize (w4.alloc (.cells #[.int .i64 a, .int .i64 b9, .int .i64 c] 54)) = w5 at *
        obtain ⟨zl0, zl1, zl2, zl3, zl4, zl5, zl6, fl⟩ := Zl.out.c7
        obtain ⟨zr0, zr1, zr2, zr3, zr4, zr5, zr6, fr⟩ := Zr.out.c7
        obtain ⟨zq0, zq1, zq2, fq⟩ := Zq.out.c3
        go_upto_region 8 with (first
          | (at_delete; refine wpList_delete_own _ rfl _ _ 55 3 rfl 54 (int_keyed Try.underlying3) Try.underlying55 heldR b _ DM rfl HM.out _ (kl i) rfl HKK.out ?_; intro w6 hm9 htn; have hT := grown_touch htn.grown; clear htn; replace Zl : Hid (Zx (w.heap.size) [.int .i64 f0, .bool f1, .slice B2 n2 k2, .int .i64 f3, .slice B4 n4 k4, .int .i64 f5, .slice B6 n6 k6] w6) := Lib.hid (Zl.out.touch hT (by have h9 := HB.out.size; omega)); replace Zr : Hid (Zx (w.heap.size + 1) [.int .i64 0, .bool false, .slice none 0 0, .int .i64 0, .slice none 0 0, .int .i64 0, .slice none 0 0] w6) := Lib.hid (Zr.out.touch hT (by have h9 := HB.out.size; omega)); replace Zq : Hid (Zx (w4.heap.size) [.int .i64 a, .int .i64 b9, .int .i64 c] w6) := Lib.hid (Zq.out.touch hT (by have h9 := HB.out.size; omega)); replace G2 : Hid (Grow 54 3 (w.heap.size + 1 + 1) w6 B2 n2 k2 L2 (fun _ => False)) := Lib.hid (G2.out.touch hT (fun a e h => by have h1 := NB2.out a e; omega) (fun _ h => h.elim)); replace G4 : Hid (Grow 60 2 (w.heap.size + 1 + 1) w6 B4 n4 k4 L4 (fun _ => False)) := Lib.hid (G4.out.touch hT (fun a e h => by have h1 := NB4.out a e; omega) (fun _ h => h.elim)); replace G6 : Hid (Grow 60 2 (w.heap.size + 1 + 1) w6 B6 n6 k6 L6 (fun _ => False)) := Lib.hid (G6.out.touch hT (fun a e h => by have h1 := NB6.out a e; omega) (fun _ h => h.elim)); replace HB : Hid (Below w.heap.size w w6) := Lib.hid (HB.out.trans (hT.below (fun z h => by rw [h]; have h1 := HB.out.size; omega) HB.out.size)); have hsw6 : w5.heap.size ≤ w6.heap.size := hT.size; clear hT; replace HM := Lib.hid hm9; clear hm9; obtain ⟨zl0, zl1, zl2, zl3, zl4, zl5, zl6, fl⟩ := Zl.out.c7; obtain ⟨zr0, zr1, zr2, zr3, zr4, zr5, zr6, fr⟩ := Zr.out.c7; obtain ⟨zq0, zq1, zq2, fq⟩ := Zq.out.c3)
          | fail)
        have HIM := Lib.hid HM.out.isMap
        go_upto_region 9 with (fail)
        clear zl0 zl1 zl2 zl3 zl4 zl5 zl6 fl
        clear zr0 zr1 zr2 zr3 zr4 zr5 zr6 fr
        clear zq0 zq1 zq2 fq
        have hTq : Touch (fun z => z = w4.heap.size) w6 (w6.setCell ⟨w4.heap.size, 2, none⟩ (.int .i64 (wrap64 (c - y)))) := (Touch.refl (fun z => z = w4.heap.size) _).setCell (p := ⟨w4.heap.size, 2, none⟩) rfl _
        replace HM := Lib.hid (ownsMap_touchL HM.out hTq (by omega))
        clear hTq
        have hT : Touch (fun b => b = w4.heap.size) w6 (w6.setCell ⟨w4.heap.size, 2, none⟩ (.int .i64 (wrap64 (c - y)))) := (Touch.refl (fun b => b = w4.heap.size) w6).setCell (p := ⟨w4.heap.size, 2, none⟩) rfl (.int .i64 (wrap64 (c - y)))
        replace Zl : Hid (Zx (w.heap.size) [.int .i64 f0, .bool f1, .slice B2 n2 k2, .int .i64 f3, .slice B4 n4 k4, .int .i64 f5, .slice B6 n6 k6] (w6.setCell ⟨w4.heap.size, 2, none⟩ (.int .i64 (wrap64 (c - y))))) := Lib.hid (Zl.out.touch hT (by have h1 := HB.out.size; omega))
        replace Zr : Hid (Zx (w.heap.size + 1) [.int .i64 0, .bool false, .slice none 0 0, .int .i64 0, .slice none 0 0, .int .i64 0, .slice none 0 0] (w6.setCell ⟨w4.heap.size, 2, none⟩ (.int .i64 (wrap64 (c - y))))) := Lib.hid (Zr.out.touch hT (by have h1 := HB.out.size; omega))
        replace G2 : Hid (Grow 54 3 (w.heap.size + 1 + 1) (w6.setCell ⟨w4.heap.size, 2, none⟩ (.int .i64 (wrap64 (c - y)))) B2 n2 k2 L2 (fun _ => False)) := Lib.hid (G2.out.touch hT (fun a e h => by have h1 := NB2.out a e; omega) (fun _ h => h.elim))
        replace G4 : Hid (Grow 60 2 (w.heap.size + 1 + 1) (w6.setCell ⟨w4.heap.size, 2, none⟩ (.int .i64 (wrap64 (c - y)))) B4 n4 k4 L4 (fun _ => False)) := Lib.hid (G4.out.touch hT (fun a e h => by have h1 := NB4.out a e; omega) (fun _ h => h.elim))
        replace G6 : Hid (Grow 60 2 (w.heap.size + 1 + 1) (w6.setCell ⟨w4.heap.size, 2, none⟩ (.int .i64 (wrap64 (c - y)))) B6 n6 k6 L6 (fun _ => False)) := Lib.hid (G6.out.touch hT (fun a e h => by have h1 := NB6.out a e; omega) (fun _ h => h.elim))
        replace Zq : Hid (Zx (w4.heap.size) [.int .i64 a, .int .i64 b9, .int .i64 (wrap64 (c - y))] (w6.setCell ⟨w4.heap.size, 2, none⟩ (.int .i64 (wrap64 (c - y))))) := Lib.hid (Zq.out.put 2 (.int .i64 (wrap64 (c - y))))
        replace HB : Hid (Below w.heap.size w (w6.setCell ⟨w4.heap.size, 2, none⟩ (.int .i64 (wrap64 (c - y))))) := Lib.hid (HB.out.trans (hT.below (fun b h => by rw [h]; have h1 := HB.out.size; omega) HB.out.size))
        clear hT
        have hsw7 : w6.heap.size ≤ (w6.setCell ⟨w4.heap.size, 2, none⟩ (.int .i64 (wrap64 (c - y)))).heap.size := by (first | (simp; done) | (simp only [World.size_alloc, World.size_setCell]; omega))
        generalize (w6.setCell ⟨w4.heap.size, 2, none⟩ (.int .i64 (wrap64 (c - y)))) = w7 at *
        obtain ⟨zl0, zl1, zl2, zl3, zl4, zl5, zl6, fl⟩ := Zl.out.c7
        obtain ⟨zr0, zr1, zr2, zr3, zr4, zr5, zr6, fr⟩ := Zr.out.c7
        obtain ⟨zq0, zq1, zq2, fq⟩ := Zq.out.c3
        have hge : (decide (1 ≤ wrap64 (c - y))) = false := (by simp; omega)
        have hge2 : wrap64 (c - y) < 1 := by omega
        have hge3 : ¬ (1 ≤ wrap64 (c - y)) := by omega
        obtain ⟨zl0, zl1, zl2, zl3, zl4, zl5, zl6, fl⟩ := Zl.out.c7
        obtain ⟨zr0, zr1, zr2, zr3, zr4, zr5, zr6, fr⟩ := Zr.out.c7
        obtain ⟨zq0, zq1, zq2, fq⟩ := Zq.out.c3
        go_upto_region 11 with (fail)
        have HML2 : Hid (MapL (DM.del (kl i)) ((L2.map some).set i none)) := Lib.hid (MapL.delM HML.out (fun d h => by rw [List.getElem?_set_self (by rw [List.length_map]; have := HC2.out; omega)] at h; cases h) (fun j hj => List.getElem?_set_ne (by omega)))
        have HX : Hid (∀ d, some d ∈ ((L2.map some).set i none) → X3 d) := Lib.hid (fun d hd => by rcases List.mem_or_eq_of_mem_set hd with h | h; obtain ⟨y9, hy, e⟩ := List.mem_map.1 h; obtain rfl := Option.some.inj e; exact x3_of (HT2.out _ hy); cases h)
        have HFM : Hid (((L2.map some).set i none).filterMap id = L2.eraseIdx i) := Lib.hid (fm_none (by have := HC2.out; omega))
        have HP : Hid (relX x y L2 = L2.eraseIdx i) := Lib.hid (relX_out (by omega) H5.out HD.out H3.out (show wrap64 (c - y) < 1 by omega))
        clear hge hge3
        go_wp2_with fail
        refine (implInOrder ((L2.map some).set i none) b n2 (DM.del (kl i)) _ HM.out HML2.out HX.out (by rw [List.length_set, List.length_map]; have := HC2.out; omega) (by omega)).mono ?_
        rintro e w8 ⟨C2, m9, j2, rfl, hG, hb⟩
        clear zl0 zl1 zl2 zl3 zl4 zl5 zl6 fl
        clear zr0 zr1 zr2 zr3 zr4 zr5 zr6 fr
        clear zq0 zq1 zq2 fq
        have Q24 := far_apart G4.out hG (by first | exact Nat.le_refl _ | (simp; done) | (simp only [World.size_alloc, World.size_setCell]; omega))
        have Q26 := far_apart G6.out hG (by first | exact Nat.le_refl _ | (simp; done) | (simp only [World.size_alloc, World.size_setCell]; omega))
        replace Zl : Hid (Zx (w.heap.size) [.int .i64 f0, .bool f1, .slice B2 n2 k2, .int .i64 f3, .slice B4 n4 k4, .int .i64 f5, .slice B6 n6 k6] w8) := Lib.hid (Zl.out.below hb)
        replace Zr : Hid (Zx (w.heap.size + 1) [.int .i64 0, .bool false, .slice none 0 0, .int .i64 0, .slice none 0 0, .int .i64 0, .slice none 0 0] w8) := Lib.hid (Zr.out.below hb)
        replace Zq : Hid (Zx (w4.heap.size) [.int .i64 a, .int .i64 b9, .int .i64 (wrap64 (c - y))] w8) := Lib.hid (Zq.out.below hb)
        replace G2 : Hid (Grow 54 3 (w.heap.size + 1 + 1) w8 B2 n2 k2 L2 (fun _ => False)) := Lib.hid (G2.out.below hb)
        replace G4 : Hid (Grow 60 2 (w.heap.size + 1 + 1) w8 B4 n4 k4 L4 (fun _ => False)) := Lib.hid (G4.out.below hb)
        replace G6 : Hid (Grow 60 2 (w.heap.size + 1 + 1) w8 B6 n6 k6 L6 (fun _ => False)) := Lib.hid (G6.out.below hb)
        replace HB : Hid (Below w.heap.size w w8) := Lib.hid (HB.out.trans (hb.mono HB.out.size))
        have hsw8 : w7.heap.size ≤ w8.heap.size := (by have h1 := hb.size; (try simp only [World.size_alloc, World.size_setCell] at h1); exact h1)
        have hlo9 : w.heap.size + 1 + 1 ≤ w7.heap.size := by have h1 := HB.out.size; omega
        replace G2 : Hid (Grow 54 3 (w.heap.size + 1 + 1) w8 C2 m9 j2 (((L2.map some).set i none).filterMap id) (fun _ => False)) := Lib.hid (hG.moreF (fun a e => by have h1 := (hG.blkF a e).1; omega))
        replace P24 := Lib.hid Q24.symm
        replace P26 := Lib.hid Q26.symm
        have HM9 := Lib.hid hG.owns.lies.count
        clear hb hG Q24 Q26 HM NB2
        have E2 : Hid (m9 = (relX x y L2).length) := Lib.hid (by rw [HP.out, ← HFM.out, HM9.out])
        have E1 : Hid (((L2.map some).set i none).filterMap id = relX x y L2) := Lib.hid (by rw [HP.out, HFM.out])
        obtain ⟨zl0, zl1, zl2, zl3, zl4, zl5, zl6, fl⟩ := Zl.out.c7
        obtain ⟨zr0, zr1, zr2, zr3, zr4, zr5, zr6, fr⟩ := Zr.out.c7
        go_upto_region 12 with (fail)
        clear zl0 zl1 zl2 zl3 zl4 zl5 zl6 fl
        clear zr0 zr1 zr2 zr3 zr4 zr5 zr6 fr
        clear Zq
        have hT : Touch (fun b => b = w.heap.size) w8 (w8.setCell ⟨w.heap.size, 2, none⟩ (.slice C2 m9 j2)) := (Touch.refl (fun b => b = w.heap.size) w8).setCell (p := ⟨w.heap.size, 2, none⟩) rfl (.slice C2 m9 j2)
        replace Zr : Hid (Zx (w.heap.size + 1) [.int .i64 0, .bool false, .slice none 0 0, .int .i64 0, .slice none 0 0, .int .i64 0, .slice none 0 0] (w8.setCell ⟨w.heap.size, 2, none⟩ (.slice C2 m9 j2))) := Lib.hid (Zr.out.touch hT (by have h1 := HB.out.size; omega))
        replace G2 : Hid (Grow 54 3 (w.heap.size + 1 + 1) (w8.setCell ⟨w.heap.size, 2, none⟩ (.slice C2 m9 j2)) C2 m9 j2 (((L2.map some).set i none).filterMap id) (fun _ => False)) := Lib.hid (G2.out.touch hT (fun a e h => by have h1 := (G2.out.blkF a e).1; have h2 := HB.out.size; omega) (fun _ h => h.elim))
        replace G4 : Hid (Grow 60 2 (w.heap.size + 1 + 1) (w8.setCell ⟨w.heap.size, 2, none⟩ (.slice C2 m9 j2)) B4 n4 k4 L4 (fun _ => False)) := Lib.hid (G4.out.touch hT (fun a e h => by have h1 := (G4.out.blkF a e).1; have h2 := HB.out.size; omega) (fun _ h => h.elim))
        replace G6 : Hid (Grow 60 2 (w.heap.size + 1 + 1) (w8.setCell ⟨w.heap.size, 2, none⟩ (.slice C2 m9 j2)) B6 n6 k6 L6 (fun _ => False)) := Lib.hid (G6.out.touch hT (fun a e h => by have h1 := (G6.out.blkF a e).1; have h2 := HB.out.size; omega) (fun _ h => h.elim))
        replace Zl : Hid (Zx (w.heap.size) [.int .i64 f0, .bool f1, .slice C2 m9 j2, .int .i64 f3, .slice B4 n4 k4, .int .i64 f5, .slice B6 n6 k6] (w8.setCell ⟨w.heap.size, 2, none⟩ (.slice C2 m9 j2))) := Lib.hid (Zl.out.put 2 (.slice C2 m9 j2))
        replace HB : Hid (Below w.heap.size w (w8.setCell ⟨w.heap.size, 2, none⟩ (.slice C2 m9 j2))) := Lib.hid (HB.out.trans (hT.below (fun b h => by rw [h]; omega) HB.out.size))
        clear hT
        have hsw9 : w8.heap.size ≤ (w8.setCell ⟨w.heap.size, 2, none⟩ (.slice C2 m9 j2)).heap.size := by (first | (simp; done) | (simp only [World.size_alloc, World.size_setCell]; omega))
        generalize (w8.setCell ⟨w.heap.size, 2, none⟩ (.slice C2 m9 j2)) = w9 at *
        obtain ⟨zl0, zl1, zl2, zl3, zl4, zl5, zl6, fl⟩ := Zl.out.c7
        obtain ⟨zr0, zr1, zr2, zr3, zr4, zr5, zr6, fr⟩ := Zr.out.c7
        obtain ⟨zl0, zl1, zl2, zl3, zl4, zl5, zl6, fl⟩ := Zl.out.c7
        obtain ⟨zr0, zr1, zr2, zr3, zr4, zr5, zr6, fr⟩ := Zr.out.c7
        go_wp2_with fail
        refine bodyPost_ret (v := .agg #[.int .i64 f0, .bool f1, .slice C2 m9 j2, .int .i64 f3, .slice B4 n4 k4, .int .i64 f5, .slice B6 n6 k6]) ?hres rfl ?hpost
        case hres =>
          refine results_box rfl _ _ (w.heap.size + 1) [.int .i64 f0, .bool f1, .slice C2 m9 j2, .int .i64 f3, .slice B4 n4 k4, .int .i64 f5, .slice B6 n6 k6] _ rfl ?_ Try.underlying27 rfl (by kernel_rfl)
          refine Zx.box ?_
          repeat (first | with_reducible exact Zr.out | with_reducible refine Zx.drewB ?_ | with_reducible apply Zx.put7)
        case hpost =>
          suffices h9 : ∀ w' : World, Touch (fun b => b = w.heap.size + 1) w9 w' → GivesL f0 f1 (relX x y L2) (relX x y L2).length f3 L4 n4 f5 L6 n6 w (.returned (.agg #[.int .i64 f0, .bool f1, .slice C2 m9 j2, .int .i64 f3, .slice B4 n4 k4, .int .i64 f5, .slice B6 n6 k6])) w' from h9 _ (by repeat (first | with_reducible exact Touch.refl _ _ | with_reducible refine Touch.drew ?_ | with_reducible refine Touch.put7 ?_ (Eq.refl _)))
          intro w' hT9
          obtain ⟨hL9, hB9⟩ := Link3.fin (W := w) (g := w.heap.size + 1) G2.out G4.out G6.out P24.out P26.out P46.out hT9 HB.out (by omega) (by omega)
          exact GivesL.of ⟨_, _, _, _, _, _, rfl, hL9, hB9⟩ E1.out E2.out
      · skip
        have HL2 := Lib.hid hl2
        have HT2 := Lib.hid ht2
        have HL4 := Lib.hid hl4
        have HT4 := Lib.hid ht4
        have HL6 := Lib.hid hl6
        have HT6 := Lib.hid ht6
        clear hl2 hl4 hl6 ht2 ht4 ht6
        obtain ⟨i0, hi, hz0, hz1, hz2⟩ := info_parts infoExport
        obtain ⟨i1, hj, hy0, hy1, hy2⟩ := info_parts infoQuestion
        have HB : Hid (Below w.heap.size w w) := Lib.hid (Below.refl _ _)
        have Zl : Hid (Zx (w.heap.size) [.int .i64 f0, .bool f1, .slice A2 n2 c2, .int .i64 f3, .slice A4 n4 c4, .int .i64 f5, .slice A6 n6 c6] (w.alloc (.cells #[.int .i64 f0, .bool f1, .slice A2 n2 c2, .int .i64 f3, .slice A4 n4 c4, .int .i64 f5, .slice A6 n6 c6] 27))) := Lib.hid (Zx.new _ _ _)
        replace HB : Hid (Below w.heap.size w (w.alloc (.cells #[.int .i64 f0, .bool f1, .slice A2 n2 c2, .int .i64 f3, .slice A4 n4 c4, .int .i64 f5, .slice A6 n6 c6] 27))) := Lib.hid (HB.out.alloc HB.out.size _)
        replace Zl : Hid (Zx (w.heap.size) [.int .i64 f0, .bool f1, .slice A2 n2 c2, .int .i64 f3, .slice A4 n4 c4, .int .i64 f5, .slice A6 n6 c6] ((w.alloc (.cells #[.int .i64 f0, .bool f1, .slice A2 n2 c2, .int .i64 f3, .slice A4 n4 c4, .int .i64 f5, .slice A6 n6 c6] 27)).alloc (.cells #[.int .i64 0, .bool false, .slice none 0 0, .int .i64 0, .slice none 0 0, .int .i64 0, .slice none 0 0] 27))) := Lib.hid (Zl.out.below ((Below.refl _ _).alloc (Nat.le_refl _) _))
        have Zr : Hid (Zx (w.heap.size + 1) [.int .i64 0, .bool false, .slice none 0 0, .int .i64 0, .slice none 0 0, .int .i64 0, .slice none 0 0] ((w.alloc (.cells #[.int .i64 f0, .bool f1, .slice A2 n2 c2, .int .i64 f3, .slice A4 n4 c4, .int .i64 f5, .slice A6 n6 c6] 27)).alloc (.cells #[.int .i64 0, .bool false, .slice none 0 0, .int .i64 0, .slice none 0 0, .int .i64 0, .slice none 0 0] 27))) := Lib.hid (by have h1 := Zx.new (w.alloc (.cells #[.int .i64 f0, .bool f1, .slice A2 n2 c2, .int .i64 f3, .slice A4 n4 c4, .int .i64 f5, .slice A6 n6 c6] 27)) #[.int .i64 0, .bool false, .slice none 0 0, .int .i64 0, .slice none 0 0, .int .i64 0, .slice none 0 0] 27; (try simp only [World.size_alloc, World.size_setCell] at h1); exact h1)
        replace HB : Hid (Below w.heap.size w ((w.alloc (.cells #[.int .i64 f0, .bool f1, .slice A2 n2 c2, .int .i64 f3, .slice A4 n4 c4, .int .i64 f5, .slice A6 n6 c6] 27)).alloc (.cells #[.int .i64 0, .bool false, .slice none 0 0, .int .i64 0, .slice none 0 0, .int .i64 0, .slice none 0 0] 27))) := Lib.hid (HB.out.alloc HB.out.size _)
        go_enter Try.func18, Try.ntmps18
        go_wp2_with fail
        refine (implCopy f0 f1 L2 A2 n2 c2 f3 L4 A4 n4 c4 f5 L6 A6 n6 c6 _ (HL2.out.below HB.out) HT2.out (HL4.out.below HB.out) HT4.out (HL6.out.below HB.out) HT6.out hn2 hn4 hn6).mono ?_
        rintro e w1 ⟨B2, k2, B4, k4, B6, k6, rfl, hK, hb⟩
        replace Zl : Hid (Zx (w.heap.size) [.int .i64 f0, .bool f1, .slice A2 n2 c2, .int .i64 f3, .slice A4 n4 c4, .int .i64 f5, .slice A6 n6 c6] w1) := Lib.hid (Zl.out.below hb)
        replace Zr : Hid (Zx (w.heap.size + 1) [.int .i64 0, .bool false, .slice none 0 0, .int .i64 0, .slice none 0 0, .int .i64 0, .slice none 0 0] w1) := Lib.hid (Zr.out.below hb)
        replace HB : Hid (Below w.heap.size w w1) := Lib.hid (HB.out.trans (hb.mono HB.out.size))
        have hsw1 : w.heap.size + 1 + 1 ≤ w1.heap.size := (by have h1 := hb.size; (try simp only [World.size_alloc, World.size_setCell] at h1); exact h1)
        have G2 : Hid (Grow 54 3 (w.heap.size + 1 + 1) w1 B2 n2 k2 L2 (fun _ => False)) := Lib.hid (by have h1 := hK.g2; (try simp only [World.size_alloc] at h1); exact h1)
        have G4 : Hid (Grow 60 2 (w.heap.size + 1 + 1) w1 B4 n4 k4 L4 (fun _ => False)) := Lib.hid (by have h1 := hK.g4; (try simp only [World.size_alloc] at h1); exact h1)
        have G6 : Hid (Grow 60 2 (w.heap.size + 1 + 1) w1 B6 n6 k6 L6 (fun _ => False)) := Lib.hid (by have h1 := hK.g6; (try simp only [World.size_alloc] at h1); exact h1)
        have P24 := Lib.hid hK.p24
        have P26 := Lib.hid hK.p26
        have P46 := Lib.hid hK.p46
        clear hK hb
        obtain ⟨zl0, zl1, zl2, zl3, zl4, zl5, zl6, fl⟩ := Zl.out.c7
        obtain ⟨zr0, zr1, zr2, zr3, zr4, zr5, zr6, fr⟩ := Zr.out.c7
        have hT : Touch (fun b => b = w.heap.size) w1 (((((((w1.setCell ⟨w.heap.size, 0, none⟩ (.int .i64 f0)).setCell ⟨w.heap.size, 1, none⟩ (.bool f1)).setCell ⟨w.heap.size, 2, none⟩ (.slice B2 n2 k2)).setCell ⟨w.heap.size, 3, none⟩ (.int .i64 f3)).setCell ⟨w.heap.size, 4, none⟩ (.slice B4 n4 k4)).setCell ⟨w.heap.size, 5, none⟩ (.int .i64 f5)).setCell ⟨w.heap.size, 6, none⟩ (.slice B6 n6 k6)) := (((((((Touch.refl (fun b => b = w.heap.size) w1).setCell (p := ⟨w.heap.size, 0, none⟩) rfl (.int .i64 f0)).setCell (p := ⟨w.heap.size, 1, none⟩) rfl (.bool f1)).setCell (p := ⟨w.heap.size, 2, none⟩) rfl (.slice B2 n2 k2)).setCell (p := ⟨w.heap.size, 3, none⟩) rfl (.int .i64 f3)).setCell (p := ⟨w.heap.size, 4, none⟩) rfl (.slice B4 n4 k4)).setCell (p := ⟨w.heap.size, 5, none⟩) rfl (.int .i64 f5)).setCell (p := ⟨w.heap.size, 6, none⟩) rfl (.slice B6 n6 k6)
        replace Zr : Hid (Zx (w.heap.size + 1) [.int .i64 0, .bool false, .slice none 0 0, .int .i64 0, .slice none 0 0, .int .i64 0, .slice none 0 0] (((((((w1.setCell ⟨w.heap.size, 0, none⟩ (.int .i64 f0)).setCell ⟨w.heap.size, 1, none⟩ (.bool f1)).setCell ⟨w.heap.size, 2, none⟩ (.slice B2 n2 k2)).setCell ⟨w.heap.size, 3, none⟩ (.int .i64 f3)).setCell ⟨w.heap.size, 4, none⟩ (.slice B4 n4 k4)).setCell ⟨w.heap.size, 5, none⟩ (.int .i64 f5)).setCell ⟨w.heap.size, 6, none⟩ (.slice B6 n6 k6))) := Lib.hid (Zr.out.touch hT (by have h1 := HB.out.size; omega))
        replace G2 : Hid (Grow 54 3 (w.heap.size + 1 + 1) (((((((w1.setCell ⟨w.heap.size, 0, none⟩ (.int .i64 f0)).setCell ⟨w.heap.size, 1, none⟩ (.bool f1)).setCell ⟨w.heap.size, 2, none⟩ (.slice B2 n2 k2)).setCell ⟨w.heap.size, 3, none⟩ (.int .i64 f3)).setCell ⟨w.heap.size, 4, none⟩ (.slice B4 n4 k4)).setCell ⟨w.heap.size, 5, none⟩ (.int .i64 f5)).setCell ⟨w.heap.size, 6, none⟩ (.slice B6 n6 k6)) B2 n2 k2 L2 (fun _ => False)) := Lib.hid (G2.out.touch hT (fun a e h => by have h1 := (G2.out.blkF a e).1; have h2 := HB.out.size; omega) (fun _ h => h.elim))
        replace G4 : Hid (Grow 60 2 (w.heap.size + 1 + 1) (((((((w1.setCell ⟨w.heap.size, 0, none⟩ (.int .i64 f0)).setCell ⟨w.heap.size, 1, none⟩ (.bool f1)).setCell ⟨w.heap.size, 2, none⟩ (.slice B2 n2 k2)).setCell ⟨w.heap.size, 3, none⟩ (.int .i64 f3)).setCell ⟨w.heap.size, 4, none⟩ (.slice B4 n4 k4)).setCell ⟨w.heap.size, 5, none⟩ (.int .i64 f5)).setCell ⟨w.heap.size, 6, none⟩ (.slice B6 n6 k6)) B4 n4 k4 L4 (fun _ => False)) := Lib.hid (G4.out.touch hT (fun a e h => by have h1 := (G4.out.blkF a e).1; have h2 := HB.out.size; omega) (fun _ h => h.elim))
        replace G6 : Hid (Grow 60 2 (w.heap.size + 1 + 1) (((((((w1.setCell ⟨w.heap.size, 0, none⟩ (.int .i64 f0)).setCell ⟨w.heap.size, 1, none⟩ (.bool f1)).setCell ⟨w.heap.size, 2, none⟩ (.slice B2 n2 k2)).setCell ⟨w.heap.size, 3, none⟩ (.int .i64 f3)).setCell ⟨w.heap.size, 4, none⟩ (.slice B4 n4 k4)).setCell ⟨w.heap.size, 5, none⟩ (.int .i64 f5)).setCell ⟨w.heap.size, 6, none⟩ (.slice B6 n6 k6)) B6 n6 k6 L6 (fun _ => False)) := Lib.hid (G6.out.touch hT (fun a e h => by have h1 := (G6.out.blkF a e).1; have h2 := HB.out.size; omega) (fun _ h => h.elim))
        replace Zl : Hid (Zx (w.heap.size) [.int .i64 f0, .bool f1, .slice B2 n2 k2, .int .i64 f3, .slice B4 n4 k4, .int .i64 f5, .slice B6 n6 k6] (((((((w1.setCell ⟨w.heap.size, 0, none⟩ (.int .i64 f0)).setCell ⟨w.heap.size, 1, none⟩ (.bool f1)).setCell ⟨w.heap.size, 2, none⟩ (.slice B2 n2 k2)).setCell ⟨w.heap.size, 3, none⟩ (.int .i64 f3)).setCell ⟨w.heap.size, 4, none⟩ (.slice B4 n4 k4)).setCell ⟨w.heap.size, 5, none⟩ (.int .i64 f5)).setCell ⟨w.heap.size, 6, none⟩ (.slice B6 n6 k6))) := Lib.hid (((((((Zl.out.put 0 (.int .i64 f0)).put 1 (.bool f1)).put 2 (.slice B2 n2 k2)).put 3 (.int .i64 f3)).put 4 (.slice B4 n4 k4)).put 5 (.int .i64 f5)).put 6 (.slice B6 n6 k6))
        replace HB : Hid (Below w.heap.size w (((((((w1.setCell ⟨w.heap.size, 0, none⟩ (.int .i64 f0)).setCell ⟨w.heap.size, 1, none⟩ (.bool f1)).setCell ⟨w.heap.size, 2, none⟩ (.slice B2 n2 k2)).setCell ⟨w.heap.size, 3, none⟩ (.int .i64 f3)).setCell ⟨w.heap.size, 4, none⟩ (.slice B4 n4 k4)).setCell ⟨w.heap.size, 5, none⟩ (.int .i64 f5)).setCell ⟨w.heap.size, 6, none⟩ (.slice B6 n6 k6))) := Lib.hid (HB.out.trans (hT.below (fun b h => by rw [h]; omega) HB.out.size))
        clear hT
        go_upto_region 2 with (fail)
        clear zl0 zl1 zl2 zl3 zl4 zl5 zl6 fl
        clear zr0 zr1 zr2 zr3 zr4 zr5 zr6 fr
        have hsw2 : w1.heap.size ≤ (((((((w1.setCell ⟨w.heap.size, 0, none⟩ (.int .i64 f0)).setCell ⟨w.heap.size, 1, none⟩ (.bool f1)).setCell ⟨w.heap.size, 2, none⟩ (.slice B2 n2 k2)).setCell ⟨w.heap.size, 3, none⟩ (.int .i64 f3)).setCell ⟨w.heap.size, 4, none⟩ (.slice B4 n4 k4)).setCell ⟨w.heap.size, 5, none⟩ (.int .i64 f5)).setCell ⟨w.heap.size, 6, none⟩ (.slice B6 n6 k6)).heap.size := by (first | (simp; done) | (simp only [World.size_alloc, World.size_setCell]; omega))
        generalize (((((((w1.setCell ⟨w.heap.size, 0, none⟩ (.int .i64 f0)).setCell ⟨w.heap.size, 1, none⟩ (.bool f1)).setCell ⟨w.heap.size, 2, none⟩ (.slice B2 n2 k2)).setCell ⟨w.heap.size, 3, none⟩ (.int .i64 f3)).setCell ⟨w.heap.size, 4, none⟩ (.slice B4 n4 k4)).setCell ⟨w.heap.size, 5, none⟩ (.int .i64 f5)).setCell ⟨w.heap.size, 6, none⟩ (.slice B6 n6 k6)) = w2 at *
        obtain ⟨zl0, zl1, zl2, zl3, zl4, zl5, zl6, fl⟩ := Zl.out.c7
        obtain ⟨zr0, zr1, zr2, zr3, zr4, zr5, zr6, fr⟩ := Zr.out.c7
        go_wp2_with fail
        refine (implPlP L2 B2 n2 k2 x _ G2.out.owns.lies HT2.out hn2).mono ?_
        rintro e w3 ⟨rfl, hb⟩
        clear zl0 zl1 zl2 zl3 zl4 zl5 zl6 fl
        clear zr0 zr1 zr2 zr3 zr4 zr5 zr6 fr
        replace Zl : Hid (Zx (w.heap.size) [.int .i64 f0, .bool f1, .slice B2 n2 k2, .int .i64 f3, .slice B4 n4 k4, .int .i64 f5, .slice B6 n6 k6] w3) := Lib.hid (Zl.out.below hb)
        replace Zr : Hid (Zx (w.heap.size + 1) [.int .i64 0, .bool false, .slice none 0 0, .int .i64 0, .slice none 0 0, .int .i64 0, .slice none 0 0] w3) := Lib.hid (Zr.out.below hb)
        replace G2 : Hid (Grow 54 3 (w.heap.size + 1 + 1) w3 B2 n2 k2 L2 (fun _ => False)) := Lib.hid (G2.out.below hb)
        replace G4 : Hid (Grow 60 2 (w.heap.size + 1 + 1) w3 B4 n4 k4 L4 (fun _ => False)) := Lib.hid (G4.out.below hb)
        replace G6 : Hid (Grow 60 2 (w.heap.size + 1 + 1) w3 B6 n6 k6 L6 (fun _ => False)) := Lib.hid (G6.out.below hb)
        replace HB : Hid (Below w.heap.size w w3) := Lib.hid (HB.out.trans (hb.mono HB.out.size))
        have hsw3 : w2.heap.size ≤ w3.heap.size := (by have h1 := hb.size; (try simp only [World.size_alloc, World.size_setCell] at h1); exact h1)
        clear hb
        rw [HI.out]
        obtain ⟨zl0, zl1, zl2, zl3, zl4, zl5, zl6, fl⟩ := Zl.out.c7
        obtain ⟨zr0, zr1, zr2, zr3, zr4, zr5, zr6, fr⟩ := Zr.out.c7
        have hlt0 : (decide ((i : Int) < 0)) = false := (by simp; try omega)
        have hy0 : (decide (y < 1)) = false := (by simp; omega)
        have NB2 : Hid (∀ a, B2 = some a → a.block < w3.heap.size) := Lib.hid (fun a e => (G2.out.blkF a e).2)
        have NB4 : Hid (∀ a, B4 = some a → a.block < w3.heap.size) := Lib.hid (fun a e => (G4.out.blkF a e).2)
        have NB6 : Hid (∀ a, B6 = some a → a.block < w3.heap.size) := Lib.hid (fun a e => (G6.out.blkF a e).2)
        go_wp2_with fail
        refine (implByPlace L2 B2 n2 k2 _ G2.out.owns.lies HT2.out hn2).mono ?_
        rintro e w4 ⟨b, DM, rfl, hbge, hm, hml, hb⟩
        clear zl0 zl1 zl2 zl3 zl4 zl5 zl6 fl
        clear zr0 zr1 zr2 zr3 zr4 zr5 zr6 fr
        replace Zl : Hid (Zx (w.heap.size) [.int .i64 f0, .bool f1, .slice B2 n2 k2, .int .i64 f3, .slice B4 n4 k4, .int .i64 f5, .slice B6 n6 k6] w4) := Lib.hid (Zl.out.below hb)
        replace Zr : Hid (Zx (w.heap.size + 1) [.int .i64 0, .bool false, .slice none 0 0, .int .i64 0, .slice none 0 0, .int .i64 0, .slice none 0 0] w4) := Lib.hid (Zr.out.below hb)
        replace G2 : Hid (Grow 54 3 (w.heap.size + 1 + 1) w4 B2 n2 k2 L2 (fun _ => False)) := Lib.hid (G2.out.below hb)
        replace G4 : Hid (Grow 60 2 (w.heap.size + 1 + 1) w4 B4 n4 k4 L4 (fun _ => False)) := Lib.hid (G4.out.below hb)
        replace G6 : Hid (Grow 60 2 (w.heap.size + 1 + 1) w4 B6 n6 k6 L6 (fun _ => False)) := Lib.hid (G6.out.below hb)
        replace HB : Hid (Below w.heap.size w w4) := Lib.hid (HB.out.trans (hb.mono HB.out.size))
        have hsw4 : w3.heap.size ≤ w4.heap.size := (by have h1 := hb.size; (try simp only [World.size_alloc, World.size_setCell] at h1); exact h1)
        have HM := Lib.hid hm
        have HML := Lib.hid hml
        have hblt := hm.lt
        clear hb hm hml
        have HKK := Lib.hid (key_of (j := i) (by omega))
        have HAT : Hid (DM.atKey (kl i) (.held (.agg #[.int .i64 0, .int .i64 0, .int .i64 0])) = .held (.agg #[.int .i64 a, .int .i64 b9, .int .i64 c])) := Lib.hid (HML.out.2 i _ (by rw [map_some_at, HD.out]; rfl) _)
        obtain ⟨zl0, zl1, zl2, zl3, zl4, zl5, zl6, fl⟩ := Zl.out.c7
        obtain ⟨zr0, zr1, zr2, zr3, zr4, zr5, zr6, fr⟩ := Zr.out.c7
        go_upto_region 7 with (first
          | (at_lookup; refine wpList_lookup_heldL rfl _ _ 55 rfl 54 (int_keyed Try.underlying3) Try.underlying55 (zeroX _) rfl HM.out _ (kl i) rfl HKK.out (.agg #[.int .i64 a, .int .i64 b9, .int .i64 c]) HAT.out ?_)
          | fail)
        clear zl0 zl1 zl2 zl3 zl4 zl5 zl6 fl
        clear zr0 zr1 zr2 zr3 zr4 zr5 zr6 fr
        clear HAT
        replace HM := Lib.hid (ownsMap_belowL HM.out ((Below.refl _ _).alloc (Nat.le_refl _) (.cells #[.int .i64 a, .int .i64 b9, .int .i64 c] 54)))
        replace Zl : Hid (Zx (w.heap.size) [.int .i64 f0, .bool f1, .slice B2 n2 k2, .int .i64 f3, .slice B4 n4 k4, .int .i64 f5, .slice B6 n6 k6] (w4.alloc (.cells #[.int .i64 a, .int .i64 b9, .int .i64 c] 54))) := Lib.hid (Zl.out.below ((Below.refl _ _).alloc (Nat.le_refl _) _))
        replace Zr : Hid (Zx (w.heap.size + 1) [.int .i64 0, .bool false, .slice none 0 0, .int .i64 0, .slice none 0 0, .int .i64 0, .slice none 0 0] (w4.alloc (.cells #[.int .i64 a, .int .i64 b9, .int .i64 c] 54))) := Lib.hid (Zr.out.below ((Below.refl _ _).alloc (Nat.le_refl _) _))
        replace G2 : Hid (Grow 54 3 (w.heap.size + 1 + 1) (w4.alloc (.cells #[.int .i64 a, .int .i64 b9, .int .i64 c] 54)) B2 n2 k2 L2 (fun _ => False)) := Lib.hid (G2.out.below ((Below.refl _ _).alloc (Nat.le_refl _) _))
        replace G4 : Hid (Grow 60 2 (w.heap.size + 1 + 1) (w4.alloc (.cells #[.int .i64 a, .int .i64 b9, .int .i64 c] 54)) B4 n4 k4 L4 (fun _ => False)) := Lib.hid (G4.out.below ((Below.refl _ _).alloc (Nat.le_refl _) _))
        replace G6 : Hid (Grow 60 2 (w.heap.size + 1 + 1) (w4.alloc (.cells #[.int .i64 a, .int .i64 b9, .int .i64 c] 54)) B6 n6 k6 L6 (fun _ => False)) := Lib.hid (G6.out.below ((Below.refl _ _).alloc (Nat.le_refl _) _))
        have Zq : Hid (Zx (w4.heap.size) [.int .i64 a, .int .i64 b9, .int .i64 c] (w4.alloc (.cells #[.int .i64 a, .int .i64 b9, .int .i64 c] 54))) := Lib.hid (Zx.new _ _ _)
        replace HB : Hid (Below w.heap.size w (w4.alloc (.cells #[.int .i64 a, .int .i64 b9, .int .i64 c] 54))) := Lib.hid (HB.out.alloc HB.out.size _)
        have hqb : b < w4.heap.size := hblt
        have hsw5 : w4.heap.size + 1 ≤ (w4.alloc (.cells #[.int .i64 a, .int .i64 b9, .int .i64 c] 54)).heap.size := by (first | (simp; done) | (simp only [World.size_alloc, World.size_setCell]; omega))
        generalize (w4.alloc (.cells #[.int .i64 a, .int .i64 b9, .int .i64 c] 54)) = w5 at *
        obtain ⟨zl0, zl1, zl2, zl3, zl4, zl5, zl6, fl⟩ := Zl.out.c7
        obtain ⟨zr0, zr1, zr2, zr3, zr4, zr5, zr6, fr⟩ := Zr.out.c7
        obtain ⟨zq0, zq1, zq2, fq⟩ := Zq.out.c3
        go_upto_region 8 with (first
          | (at_delete; refine wpList_delete_own _ rfl _ _ 55 3 rfl 54 (int_keyed Try.underlying3) Try.underlying55 heldR b _ DM rfl HM.out _ (kl i) rfl HKK.out ?_; intro w6 hm9 htn; have hT := grown_touch htn.grown; clear htn; replace Zl : Hid (Zx (w.heap.size) [.int .i64 f0, .bool f1, .slice B2 n2 k2, .int .i64 f3, .slice B4 n4 k4, .int .i64 f5, .slice B6 n6 k6] w6) := Lib.hid (Zl.out.touch hT (by have h9 := HB.out.size; omega)); replace Zr : Hid (Zx (w.heap.size + 1) [.int .i64 0, .bool false, .slice none 0 0, .int .i64 0, .slice none 0 0, .int .i64 0, .slice none 0 0] w6) := Lib.hid (Zr.out.touch hT (by have h9 := HB.out.size; omega)); replace Zq : Hid (Zx (w4.heap.size) [.int .i64 a, .int .i64 b9, .int .i64 c] w6) := Lib.hid (Zq.out.touch hT (by have h9 := HB.out.size; omega)); replace G2 : Hid (Grow 54 3 (w.heap.size + 1 + 1) w6 B2 n2 k2 L2 (fun _ => False)) := Lib.hid (G2.out.touch hT (fun a e h => by have h1 := NB2.out a e; omega) (fun _ h => h.elim)); replace G4 : Hid (Grow 60 2 (w.heap.size + 1 + 1) w6 B4 n4 k4 L4 (fun _ => False)) := Lib.hid (G4.out.touch hT (fun a e h => by have h1 := NB4.out a e; omega) (fun _ h => h.elim)); replace G6 : Hid (Grow 60 2 (w.heap.size + 1 + 1) w6 B6 n6 k6 L6 (fun _ => False)) := Lib.hid (G6.out.touch hT (fun a e h => by have h1 := NB6.out a e; omega) (fun _ h => h.elim)); replace HB : Hid (Below w.heap.size w w6) := Lib.hid (HB.out.trans (hT.below (fun z h => by rw [h]; have h1 := HB.out.size; omega) HB.out.size)); have hsw6 : w5.heap.size ≤ w6.heap.size := hT.size; clear hT; replace HM := Lib.hid hm9; clear hm9; obtain ⟨zl0, zl1, zl2, zl3, zl4, zl5, zl6, fl⟩ := Zl.out.c7; obtain ⟨zr0, zr1, zr2, zr3, zr4, zr5, zr6, fr⟩ := Zr.out.c7; obtain ⟨zq0, zq1, zq2, fq⟩ := Zq.out.c3)
          | fail)
        have HIM := Lib.hid HM.out.isMap
        go_upto_region 9 with (fail)
        clear zl0 zl1 zl2 zl3 zl4 zl5 zl6 fl
        clear zr0 zr1 zr2 zr3 zr4 zr5 zr6 fr
        clear zq0 zq1 zq2 fq
        have hTq : Touch (fun z => z = w4.heap.size) w6 (w6.setCell ⟨w4.heap.size, 2, none⟩ (.int .i64 (wrap64 (c - y)))) := (Touch.refl (fun z => z = w4.heap.size) _).setCell (p := ⟨w4.heap.size, 2, none⟩) rfl _
        replace HM := Lib.hid (ownsMap_touchL HM.out hTq (by omega))
        clear hTq
        have hT : Touch (fun b => b = w4.heap.size) w6 (w6.setCell ⟨w4.heap.size, 2, none⟩ (.int .i64 (wrap64 (c - y)))) := (Touch.refl (fun b => b = w4.heap.size) w6).setCell (p := ⟨w4.heap.size, 2, none⟩) rfl (.int .i64 (wrap64 (c - y)))
        replace Zl : Hid (Zx (w.heap.size) [.int .i64 f0, .bool f1, .slice B2 n2 k2, .int .i64 f3, .slice B4 n4 k4, .int .i64 f5, .slice B6 n6 k6] (w6.setCell ⟨w4.heap.size, 2, none⟩ (.int .i64 (wrap64 (c - y))))) := Lib.hid (Zl.out.touch hT (by have h1 := HB.out.size; omega))
        replace Zr : Hid (Zx (w.heap.size + 1) [.int .i64 0, .bool false, .slice none 0 0, .int .i64 0, .slice none 0 0, .int .i64 0, .slice none 0 0] (w6.setCell ⟨w4.heap.size, 2, none⟩ (.int .i64 (wrap64 (c - y))))) := Lib.hid (Zr.out.touch hT (by have h1 := HB.out.size; omega))
        replace G2 : Hid (Grow 54 3 (w.heap.size + 1 + 1) (w6.setCell ⟨w4.heap.size, 2, none⟩ (.int .i64 (wrap64 (c - y)))) B2 n2 k2 L2 (fun _ => False)) := Lib.hid (G2.out.touch hT (fun a e h => by have h1 := NB2.out a e; omega) (fun _ h => h.elim))
        replace G4 : Hid (Grow 60 2 (w.heap.size + 1 + 1) (w6.setCell ⟨w4.heap.size, 2, none⟩ (.int .i64 (wrap64 (c - y)))) B4 n4 k4 L4 (fun _ => False)) := Lib.hid (G4.out.touch hT (fun a e h => by have h1 := NB4.out a e; omega) (fun _ h => h.elim))
        replace G6 : Hid (Grow 60 2 (w.heap.size + 1 + 1) (w6.setCell ⟨w4.heap.size, 2, none⟩ (.int .i64 (wrap64 (c - y)))) B6 n6 k6 L6 (fun _ => False)) := Lib.hid (G6.out.touch hT (fun a e h => by have h1 := NB6.out a e; omega) (fun _ h => h.elim))
        replace Zq : Hid (Zx (w4.heap.size) [.int .i64 a, .int .i64 b9, .int .i64 (wrap64 (c - y))] (w6.setCell ⟨w4.heap.size, 2, none⟩ (.int .i64 (wrap64 (c - y))))) := Lib.hid (Zq.out.put 2 (.int .i64 (wrap64 (c - y))))
        replace HB : Hid (Below w.heap.size w (w6.setCell ⟨w4.heap.size, 2, none⟩ (.int .i64 (wrap64 (c - y))))) := Lib.hid (HB.out.trans (hT.below (fun b h => by rw [h]; have h1 := HB.out.size; omega) HB.out.size))
        clear hT
        have hsw7 : w6.heap.size ≤ (w6.setCell ⟨w4.heap.size, 2, none⟩ (.int .i64 (wrap64 (c - y)))).heap.size := by (first | (simp; done) | (simp only [World.size_alloc, World.size_setCell]; omega))
        generalize (w6.setCell ⟨w4.heap.size, 2, none⟩ (.int .i64 (wrap64 (c - y)))) = w7 at *
        obtain ⟨zl0, zl1, zl2, zl3, zl4, zl5, zl6, fl⟩ := Zl.out.c7
        obtain ⟨zr0, zr1, zr2, zr3, zr4, zr5, zr6, fr⟩ := Zr.out.c7
        obtain ⟨zq0, zq1, zq2, fq⟩ := Zq.out.c3
        have hge : (decide (1 ≤ wrap64 (c - y))) = true := (by simp; omega)
        have hge2 : 1 ≤ wrap64 (c - y) := by omega
        go_upto_region 11 with (first
          | (at_mapUpdate; refine wpList_mapUpdate_own _ rfl _ _ _ 55 rfl 3 54 (int_keyed Try.underlying3) Try.underlying55 heldR b _ _ rfl HM.out (by unfold maxLen; omega) _ (vx (Dat.r [.i a, .i b9, .i (wrap64 (c - y))])) _ rfl rfl HKK.out _ [] rfl ?_; intro w8 hm9 hg9; have hT := grown_touch hg9; clear hg9; replace Zl : Hid (Zx (w.heap.size) [.int .i64 f0, .bool f1, .slice B2 n2 k2, .int .i64 f3, .slice B4 n4 k4, .int .i64 f5, .slice B6 n6 k6] w8) := Lib.hid (Zl.out.touch hT (by have h9 := HB.out.size; omega)); replace Zr : Hid (Zx (w.heap.size + 1) [.int .i64 0, .bool false, .slice none 0 0, .int .i64 0, .slice none 0 0, .int .i64 0, .slice none 0 0] w8) := Lib.hid (Zr.out.touch hT (by have h9 := HB.out.size; omega)); replace Zq : Hid (Zx (w4.heap.size) [.int .i64 a, .int .i64 b9, .int .i64 (wrap64 (c - y))] w8) := Lib.hid (Zq.out.touch hT (by have h9 := HB.out.size; omega)); replace G2 : Hid (Grow 54 3 (w.heap.size + 1 + 1) w8 B2 n2 k2 L2 (fun _ => False)) := Lib.hid (G2.out.touch hT (fun a e h => by have h1 := NB2.out a e; omega) (fun _ h => h.elim)); replace G4 : Hid (Grow 60 2 (w.heap.size + 1 + 1) w8 B4 n4 k4 L4 (fun _ => False)) := Lib.hid (G4.out.touch hT (fun a e h => by have h1 := NB4.out a e; omega) (fun _ h => h.elim)); replace G6 : Hid (Grow 60 2 (w.heap.size + 1 + 1) w8 B6 n6 k6 L6 (fun _ => False)) := Lib.hid (G6.out.touch hT (fun a e h => by have h1 := NB6.out a e; omega) (fun _ h => h.elim)); replace HB : Hid (Below w.heap.size w w8) := Lib.hid (HB.out.trans (hT.below (fun z h => by rw [h]; have h1 := HB.out.size; omega) HB.out.size)); have hsw8 : w7.heap.size ≤ w8.heap.size := hT.size; clear hT; replace HM := Lib.hid hm9; clear hm9; obtain ⟨zl0, zl1, zl2, zl3, zl4, zl5, zl6, fl⟩ := Zl.out.c7; obtain ⟨zr0, zr1, zr2, zr3, zr4, zr5, zr6, fr⟩ := Zr.out.c7; obtain ⟨zq0, zq1, zq2, fq⟩ := Zq.out.c3)
          | fail)
        have HML2 : Hid (MapL ((DM.del (kl i)).put (kl i) (.held (vx (Dat.r [.i a, .i b9, .i (wrap64 (c - y))])))) ((L2.map some).set i (some (Dat.r [.i a, .i b9, .i (wrap64 (c - y))])))) := Lib.hid ((MapL.delM (M' := (L2.map some).set i none) HML.out (fun d h => by rw [List.getElem?_set_self (by rw [List.length_map]; have := HC2.out; omega)] at h; cases h) (fun j hj => List.getElem?_set_ne (by omega))).putM HIM.out (by rw [List.getElem?_set_self (by rw [List.length_map]; have := HC2.out; omega)]) (fun j hj => by rw [List.getElem?_set_ne (by omega), List.getElem?_set_ne (by omega)]))
        have HX : Hid (∀ d, some d ∈ ((L2.map some).set i (some (Dat.r [.i a, .i b9, .i (wrap64 (c - y))]))) → X3 d) := Lib.hid (fun d hd => by rcases List.mem_or_eq_of_mem_set hd with h | h; obtain ⟨y9, hy, e⟩ := List.mem_map.1 h; obtain rfl := Option.some.inj e; exact x3_of (HT2.out _ hy); obtain rfl := Option.some.inj h; exact ⟨_, _, _, rfl⟩)
        have HFM : Hid (((L2.map some).set i (some (Dat.r [.i a, .i b9, .i (wrap64 (c - y))]))).filterMap id = L2.set i (Dat.r [.i a, .i b9, .i (wrap64 (c - y))])) := Lib.hid (fm_some (by have := HC2.out; omega))
        have HP : Hid (relX x y L2 = L2.set i (Dat.r [.i a, .i b9, .i (wrap64 (c - y))])) := Lib.hid (relX_left (by omega) H5.out HD.out H3.out (by show ¬ wrap64 (c - y) < 1; omega))
        clear hge
        go_wp2_with fail
        refine (implInOrder ((L2.map some).set i (some (Dat.r [.i a, .i b9, .i (wrap64 (c - y))]))) b (n2 + 1) ((DM.del (kl i)).put (kl i) (.held (vx (Dat.r [.i a, .i b9, .i (wrap64 (c - y))])))) _ HM.out HML2.out HX.out (by rw [List.length_set, List.length_map]; have := HC2.out; omega) (by omega)).mono ?_
        rintro e w9 ⟨C2, m9, j2, rfl, hG, hb⟩
        clear zl0 zl1 zl2 zl3 zl4 zl5 zl6 fl
        clear zr0 zr1 zr2 zr3 zr4 zr5 zr6 fr
        clear zq0 zq1 zq2 fq
        have Q24 := far_apart G4.out hG (by first | exact Nat.le_refl _ | (simp; done) | (simp only [World.size_alloc, World.size_setCell]; omega))
        have Q26 := far_apart G6.out hG (by first | exact Nat.le_refl _ | (simp; done) | (simp only [World.size_alloc, World.size_setCell]; omega))
        replace Zl : Hid (Zx (w.heap.size) [.int .i64 f0, .bool f1, .slice B2 n2 k2, .int .i64 f3, .slice B4 n4 k4, .int .i64 f5, .slice B6 n6 k6] w9) := Lib.hid (Zl.out.below hb)
        replace Zr : Hid (Zx (w.heap.size + 1) [.int .i64 0, .bool false, .slice none 0 0, .int .i64 0, .slice none 0 0, .int .i64 0, .slice none 0 0] w9) := Lib.hid (Zr.out.below hb)
        replace Zq : Hid (Zx (w4.heap.size) [.int .i64 a, .int .i64 b9, .int .i64 (wrap64 (c - y))] w9) := Lib.hid (Zq.out.below hb)
        replace G2 : Hid (Grow 54 3 (w.heap.size + 1 + 1) w9 B2 n2 k2 L2 (fun _ => False)) := Lib.hid (G2.out.below hb)
        replace G4 : Hid (Grow 60 2 (w.heap.size + 1 + 1) w9 B4 n4 k4 L4 (fun _ => False)) := Lib.hid (G4.out.below hb)
        replace G6 : Hid (Grow 60 2 (w.heap.size + 1 + 1) w9 B6 n6 k6 L6 (fun _ => False)) := Lib.hid (G6.out.below hb)
        replace HB : Hid (Below w.heap.size w w9) := Lib.hid (HB.out.trans (hb.mono HB.out.size))
        have hsw9 : w8.heap.size ≤ w9.heap.size := (by have h1 := hb.size; (try simp only [World.size_alloc, World.size_setCell] at h1); exact h1)
        have hlo9 : w.heap.size + 1 + 1 ≤ w8.heap.size := by have h1 := HB.out.size; omega
        replace G2 : Hid (Grow 54 3 (w.heap.size + 1 + 1) w9 C2 m9 j2 (((L2.map some).set i (some (Dat.r [.i a, .i b9, .i (wrap64 (c - y))]))).filterMap id) (fun _ => False)) := Lib.hid (hG.moreF (fun a e => by have h1 := (hG.blkF a e).1; omega))
        replace P24 := Lib.hid Q24.symm
        replace P26 := Lib.hid Q26.symm
        have HM9 := Lib.hid hG.owns.lies.count
        clear hb hG Q24 Q26 HM NB2
        have E2 : Hid (m9 = (relX x y L2).length) := Lib.hid (by rw [HP.out, ← HFM.out, HM9.out])
        have E1 : Hid (((L2.map some).set i (some (Dat.r [.i a, .i b9, .i (wrap64 (c - y))]))).filterMap id = relX x y L2) := Lib.hid (by rw [HP.out, HFM.out])
        obtain ⟨zl0, zl1, zl2, zl3, zl4, zl5, zl6, fl⟩ := Zl.out.c7
        obtain ⟨zr0, zr1, zr2, zr3, zr4, zr5, zr6, fr⟩ := Zr.out.c7
        go_upto_region 12 with (fail)
        clear zl0 zl1 zl2 zl3 zl4 zl5 zl6 fl
        clear zr0 zr1 zr2 zr3 zr4 zr5 zr6 fr
        clear Zq
        have hT : Touch (fun b => b = w.heap.size) w9 (w9.setCell ⟨w.heap.size, 2, none⟩ (.slice C2 m9 j2)) := (Touch.refl (fun b => b = w.heap.size) w9).setCell (p := ⟨w.heap.size, 2, none⟩) rfl (.slice C2 m9 j2)
        replace Zr : Hid (Zx (w.heap.size + 1) [.int .i64 0, .bool false, .slice none 0 0, .int .i64 0, .slice none 0 0, .int .i64 0, .slice none 0 0] (w9.setCell ⟨w.heap.size, 2, none⟩ (.slice C2 m9 j2))) := Lib.hid (Zr.out.touch hT (by have h1 := HB.out.size; omega))
        replace G2 : Hid (Grow 54 3 (w.heap.size + 1 + 1) (w9.setCell ⟨w.heap.size, 2, none⟩ (.slice C2 m9 j2)) C2 m9 j2 (((L2.map some).set i (some (Dat.r [.i a, .i b9, .i (wrap64 (c - y))]))).filterMap id) (fun _ => False)) := Lib.hid (G2.out.touch hT (fun a e h => by have h1 := (G2.out.blkF a e).1; have h2 := HB.out.size; omega) (fun _ h => h.elim))
        replace G4 : Hid (Grow 60 2 (w.heap.size + 1 + 1) (w9.setCell ⟨w.heap.size, 2, none⟩ (.slice C2 m9 j2)) B4 n4 k4 L4 (fun _ => False)) := Lib.hid (G4.out.touch hT (fun a e h => by have h1 := (G4.out.blkF a e).1; have h2 := HB.out.size; omega) (fun _ h => h.elim))
        replace G6 : Hid (Grow 60 2 (w.heap.size + 1 + 1) (w9.setCell ⟨w.heap.size, 2, none⟩ (.slice C2 m9 j2)) B6 n6 k6 L6 (fun _ => False)) := Lib.hid (G6.out.touch hT (fun a e h => by have h1 := (G6.out.blkF a e).1; have h2 := HB.out.size; omega) (fun _ h => h.elim))
        replace Zl : Hid (Zx (w.heap.size) [.int .i64 f0, .bool f1, .slice C2 m9 j2, .int .i64 f3, .slice B4 n4 k4, .int .i64 f5, .slice B6 n6 k6] (w9.setCell ⟨w.heap.size, 2, none⟩ (.slice C2 m9 j2))) := Lib.hid (Zl.out.put 2 (.slice C2 m9 j2))
        replace HB : Hid (Below w.heap.size w (w9.setCell ⟨w.heap.size, 2, none⟩ (.slice C2 m9 j2))) := Lib.hid (HB.out.trans (hT.below (fun b h => by rw [h]; omega) HB.out.size))
        clear hT
        have hsw10 : w9.heap.size ≤ (w9.setCell ⟨w.heap.size, 2, none⟩ (.slice C2 m9 j2)).heap.size := by (first | (simp; done) | (simp only [World.size_alloc, World.size_setCell]; omega))
        generalize (w9.setCell ⟨w.heap.size, 2, none⟩ (.slice C2 m9 j2)) = w10 at *
        obtain ⟨zl0, zl1, zl2, zl3, zl4, zl5, zl6, fl⟩ := Zl.out.c7
        obtain ⟨zr0, zr1, zr2, zr3, zr4, zr5, zr6, fr⟩ := Zr.out.c7
        obtain ⟨zl0, zl1, zl2, zl3, zl4, zl5, zl6, fl⟩ := Zl.out.c7
        obtain ⟨zr0, zr1, zr2, zr3, zr4, zr5, zr6, fr⟩ := Zr.out.c7
        go_wp2_with fail
        refine bodyPost_ret (v := .agg #[.int .i64 f0, .bool f1, .slice C2 m9 j2, .int .i64 f3, .slice B4 n4 k4, .int .i64 f5, .slice B6 n6 k6]) ?hres rfl ?hpost
        case hres =>
          refine results_box rfl _ _ (w.heap.size + 1) [.int .i64 f0, .bool f1, .slice C2 m9 j2, .int .i64 f3, .slice B4 n4 k4, .int .i64 f5, .slice B6 n6 k6] _ rfl ?_ Try.underlying27 rfl (by kernel_rfl)
          refine Zx.box ?_
          repeat (first | with_reducible exact Zr.out | with_reducible refine Zx.drewB ?_ | with_reducible apply Zx.put7)
        case hpost =>
          suffices h9 : ∀ w' : World, Touch (fun b => b = w.heap.size + 1) w10 w' → GivesL f0 f1 (relX x y L2) (relX x y L2).length f3 L4 n4 f5 L6 n6 w (.returned (.agg #[.int .i64 f0, .bool f1, .slice C2 m9 j2, .int .i64 f3, .slice B4 n4 k4, .int .i64 f5, .slice B6 n6 k6])) w' from h9 _ (by repeat (first | with_reducible exact Touch.refl _ _ | with_reducible refine Touch.drew ?_ | with_reducible refine Touch.put7 ?_ (Eq.refl _)))
          intro w' hT9
          obtain ⟨hL9, hB9⟩ := Link3.fin (W := w) (g := w.heap.size + 1) G2.out G4.out G6.out P24.out P26.out P46.out hT9 HB.out (by omega) (by omega)
          exact GivesL.of ⟨_, _, _, _, _, _, rfl, hL9, hB9⟩ E1.out E2.out
end Go.Proofs.Ytdedioghljkflaa
