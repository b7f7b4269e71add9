/- Chapter 10: the program's PutExport. -/
import Derived.Test.YtmeacgpebpfpbaaLnkX
import Derived.Test.YtmeacgpebpfpbaaMzLnkC
import Derived.Deep.RegionHeld3
import Derived.Deep.RegionLaw
import Derived.Deep.Cut
import Derived.LoopTactic
import Derived.Lib.Hide
import Derived.Deep.QuietTactic
import Derived.BigQuiet
import Derived.Deep.RegionWith
import Derived.Handy
namespace Go.Proofs.Ytmeacgpebpfpbaa
open Go.RowKit
set_option linter.unusedVariables false
set_option linter.unusedSimpArgs false
set_option maxRecDepth 100000 in
set_option maxHeartbeats 16000000 in
theorem implPutE (f0 : Int) (f1 : Bool) (L2 : List Dat) (A2 : Option Addr) (n2 c2 : Nat) (f3 : Int) (L4 : List Dat) (A4 : Option Addr) (n4 c4 : Nat) (f5 : Int) (L6 : List Dat) (A6 : Option Addr) (n6 c6 : Nat) (x : Int) (w : World) (hl2 : Lies w (.l L2) [.slice A2 n2 c2]) (ht2 : ∀ x ∈ L2, Has tyExport x) (hl4 : Lies w (.l L4) [.slice A4 n4 c4]) (ht4 : ∀ x ∈ L4, Has tyQuestion x) (hl6 : Lies w (.l L6) [.slice A6 n6 c6]) (ht6 : ∀ x ∈ L6, Has tyQuestion x) (hn2 : n2 ≤ 1099511627776) (hn4 : n4 ≤ 1099511627776) (hn6 : n6 ≤ 1099511627776) :
    Calls Try.prog 125 #[.agg #[.int .i64 f0, .bool f1, .slice A2 n2 c2, .int .i64 f3, .slice A4 n4 c4, .int .i64 f5, .slice A6 n6 c6], .int .i64 x] w (GivesLI f0 f1 (putL x (wrap64 (f3 + 1)) L2) (putL x (wrap64 (f3 + 1)) L2).length (putN x f3 L2) L4 n4 f5 L6 n6 (putP x (wrap64 (f3 + 1)) L2) w) := by
  have HC2 := Lib.hid hl2.count
  rcases idx_cases1 (isF 1 x) L2 with ⟨h1, h2⟩ | ⟨i, d, h1, h2, h3, h4, h5⟩
  · have HI := Lib.hid h1
    have HP := Lib.hid (putL_none (nx := wrap64 (f3 + 1)) h2)
    have HV : Hid (putP x (wrap64 (f3 + 1)) L2 = wrap64 (f3 + 1)) := Lib.hid (look_none h2)
    have HN := Lib.hid (putN_none (f := f3) h1)
    clear h1 h2
    have HL2 := Lib.hid hl2
    have HT2 := Lib.hid ht2
    have HL4 := Lib.hid hl4
    have HT4 := Lib.hid ht4
    have HL6 := Lib.hid hl6
    have HT6 := Lib.hid ht6
    clear hl2 hl4 hl6 ht2 ht4 ht6
    obtain ⟨i0, hi, hz0, hz1, hz2⟩ := info_parts infoExport
    obtain ⟨i1, hj, hy0, hy1, hy2⟩ := info_parts infoQuestion
    have HB : Hid (Below w.heap.size w w) := Lib.hid (Below.refl _ _)
    have Zl : Hid (Zx (w.heap.size) [.int .i64 f0, .bool f1, .slice A2 n2 c2, .int .i64 f3, .slice A4 n4 c4, .int .i64 f5, .slice A6 n6 c6] (w.alloc (.cells #[.int .i64 f0, .bool f1, .slice A2 n2 c2, .int .i64 f3, .slice A4 n4 c4, .int .i64 f5, .slice A6 n6 c6] 97))) := Lib.hid (Zx.new _ _ _)
    replace HB : Hid (Below w.heap.size w (w.alloc (.cells #[.int .i64 f0, .bool f1, .slice A2 n2 c2, .int .i64 f3, .slice A4 n4 c4, .int .i64 f5, .slice A6 n6 c6] 97))) := Lib.hid (HB.out.alloc HB.out.size _)
    replace Zl : Hid (Zx (w.heap.size) [.int .i64 f0, .bool f1, .slice A2 n2 c2, .int .i64 f3, .slice A4 n4 c4, .int .i64 f5, .slice A6 n6 c6] ((w.alloc (.cells #[.int .i64 f0, .bool f1, .slice A2 n2 c2, .int .i64 f3, .slice A4 n4 c4, .int .i64 f5, .slice A6 n6 c6] 97)).alloc (.cells #[.int .i64 0, .bool false, .slice none 0 0, .int .i64 0, .slice none 0 0, .int .i64 0, .slice none 0 0] 97))) := Lib.hid (Zl.out.below ((Below.refl _ _).alloc (Nat.le_refl _) _))
    have Zr : Hid (Zx (w.heap.size + 1) [.int .i64 0, .bool false, .slice none 0 0, .int .i64 0, .slice none 0 0, .int .i64 0, .slice none 0 0] ((w.alloc (.cells #[.int .i64 f0, .bool f1, .slice A2 n2 c2, .int .i64 f3, .slice A4 n4 c4, .int .i64 f5, .slice A6 n6 c6] 97)).alloc (.cells #[.int .i64 0, .bool false, .slice none 0 0, .int .i64 0, .slice none 0 0, .int .i64 0, .slice none 0 0] 97))) := Lib.hid (by have h1 := Zx.new (w.alloc (.cells #[.int .i64 f0, .bool f1, .slice A2 n2 c2, .int .i64 f3, .slice A4 n4 c4, .int .i64 f5, .slice A6 n6 c6] 97)) #[.int .i64 0, .bool false, .slice none 0 0, .int .i64 0, .slice none 0 0, .int .i64 0, .slice none 0 0] 97; (try simp only [World.size_alloc, World.size_setCell] at h1); exact h1)
    replace HB : Hid (Below w.heap.size w ((w.alloc (.cells #[.int .i64 f0, .bool f1, .slice A2 n2 c2, .int .i64 f3, .slice A4 n4 c4, .int .i64 f5, .slice A6 n6 c6] 97)).alloc (.cells #[.int .i64 0, .bool false, .slice none 0 0, .int .i64 0, .slice none 0 0, .int .i64 0, .slice none 0 0] 97))) := Lib.hid (HB.out.alloc HB.out.size _)
    go_enter Try.func125, Try.ntmps125
    go_wp2_with fail
    refine (implCopy f0 f1 L2 A2 n2 c2 f3 L4 A4 n4 c4 f5 L6 A6 n6 c6 _ (HL2.out.below HB.out) HT2.out (HL4.out.below HB.out) HT4.out (HL6.out.below HB.out) HT6.out hn2 hn4 hn6).mono ?_
    rintro e w1 ⟨B2, k2, B4, k4, B6, k6, rfl, hK, hb⟩
    replace Zl : Hid (Zx (w.heap.size) [.int .i64 f0, .bool f1, .slice A2 n2 c2, .int .i64 f3, .slice A4 n4 c4, .int .i64 f5, .slice A6 n6 c6] w1) := Lib.hid (Zl.out.below hb)
    replace Zr : Hid (Zx (w.heap.size + 1) [.int .i64 0, .bool false, .slice none 0 0, .int .i64 0, .slice none 0 0, .int .i64 0, .slice none 0 0] w1) := Lib.hid (Zr.out.below hb)
    replace HB : Hid (Below w.heap.size w w1) := Lib.hid (HB.out.trans (hb.mono HB.out.size))
    have hsw1 : w.heap.size + 1 + 1 ≤ w1.heap.size := (by have h1 := hb.size; (try simp only [World.size_alloc, World.size_setCell] at h1); exact h1)
    have G2 : Hid (Grow 174 3 (w.heap.size + 1 + 1) w1 B2 n2 k2 L2 (fun _ => False)) := Lib.hid (by have h1 := hK.g2; (try simp only [World.size_alloc] at h1); exact h1)
    have G4 : Hid (Grow 177 2 (w.heap.size + 1 + 1) w1 B4 n4 k4 L4 (fun _ => False)) := Lib.hid (by have h1 := hK.g4; (try simp only [World.size_alloc] at h1); exact h1)
    have G6 : Hid (Grow 177 2 (w.heap.size + 1 + 1) w1 B6 n6 k6 L6 (fun _ => False)) := Lib.hid (by have h1 := hK.g6; (try simp only [World.size_alloc] at h1); exact h1)
    have P24 := Lib.hid hK.p24
    have P26 := Lib.hid hK.p26
    have P46 := Lib.hid hK.p46
    clear hK hb
    obtain ⟨zl0, zl1, zl2, zl3, zl4, zl5, zl6, fl⟩ := Zl.out.c7
    obtain ⟨zr0, zr1, zr2, zr3, zr4, zr5, zr6, fr⟩ := Zr.out.c7
    have hT : Touch (fun b => b = w.heap.size) w1 (((((((w1.setCell ⟨w.heap.size, 0, none⟩ (.int .i64 f0)).setCell ⟨w.heap.size, 1, none⟩ (.bool f1)).setCell ⟨w.heap.size, 2, none⟩ (.slice B2 n2 k2)).setCell ⟨w.heap.size, 3, none⟩ (.int .i64 f3)).setCell ⟨w.heap.size, 4, none⟩ (.slice B4 n4 k4)).setCell ⟨w.heap.size, 5, none⟩ (.int .i64 f5)).setCell ⟨w.heap.size, 6, none⟩ (.slice B6 n6 k6)) := (((((((Touch.refl (fun b => b = w.heap.size) w1).setCell (p := ⟨w.heap.size, 0, none⟩) rfl (.int .i64 f0)).setCell (p := ⟨w.heap.size, 1, none⟩) rfl (.bool f1)).setCell (p := ⟨w.heap.size, 2, none⟩) rfl (.slice B2 n2 k2)).setCell (p := ⟨w.heap.size, 3, none⟩) rfl (.int .i64 f3)).setCell (p := ⟨w.heap.size, 4, none⟩) rfl (.slice B4 n4 k4)).setCell (p := ⟨w.heap.size, 5, none⟩) rfl (.int .i64 f5)).setCell (p := ⟨w.heap.size, 6, none⟩) rfl (.slice B6 n6 k6)
    replace Zr : Hid (Zx (w.heap.size + 1) [.int .i64 0, .bool false, .slice none 0 0, .int .i64 0, .slice none 0 0, .int .i64 0, .slice none 0 0] (((((((w1.setCell ⟨w.heap.size, 0, none⟩ (.int .i64 f0)).setCell ⟨w.heap.size, 1, none⟩ (.bool f1)).setCell ⟨w.heap.size, 2, none⟩ (.slice B2 n2 k2)).setCell ⟨w.heap.size, 3, none⟩ (.int .i64 f3)).setCell ⟨w.heap.size, 4, none⟩ (.slice B4 n4 k4)).setCell ⟨w.heap.size, 5, none⟩ (.int .i64 f5)).setCell ⟨w.heap.size, 6, none⟩ (.slice B6 n6 k6))) := Lib.hid (Zr.out.touch hT (by have h1 := HB.out.size; omega))
    replace G2 : Hid (Grow 174 3 (w.heap.size + 1 + 1) (((((((w1.setCell ⟨w.heap.size, 0, none⟩ (.int .i64 f0)).setCell ⟨w.heap.size, 1, none⟩ (.bool f1)).setCell ⟨w.heap.size, 2, none⟩ (.slice B2 n2 k2)).setCell ⟨w.heap.size, 3, none⟩ (.int .i64 f3)).setCell ⟨w.heap.size, 4, none⟩ (.slice B4 n4 k4)).setCell ⟨w.heap.size, 5, none⟩ (.int .i64 f5)).setCell ⟨w.heap.size, 6, none⟩ (.slice B6 n6 k6)) B2 n2 k2 L2 (fun _ => False)) := Lib.hid (G2.out.touch hT (fun a e h => by have h1 := (G2.out.blkF a e).1; have h2 := HB.out.size; omega) (fun _ h => h.elim))
    replace G4 : Hid (Grow 177 2 (w.heap.size + 1 + 1) (((((((w1.setCell ⟨w.heap.size, 0, none⟩ (.int .i64 f0)).setCell ⟨w.heap.size, 1, none⟩ (.bool f1)).setCell ⟨w.heap.size, 2, none⟩ (.slice B2 n2 k2)).setCell ⟨w.heap.size, 3, none⟩ (.int .i64 f3)).setCell ⟨w.heap.size, 4, none⟩ (.slice B4 n4 k4)).setCell ⟨w.heap.size, 5, none⟩ (.int .i64 f5)).setCell ⟨w.heap.size, 6, none⟩ (.slice B6 n6 k6)) B4 n4 k4 L4 (fun _ => False)) := Lib.hid (G4.out.touch hT (fun a e h => by have h1 := (G4.out.blkF a e).1; have h2 := HB.out.size; omega) (fun _ h => h.elim))
    replace G6 : Hid (Grow 177 2 (w.heap.size + 1 + 1) (((((((w1.setCell ⟨w.heap.size, 0, none⟩ (.int .i64 f0)).setCell ⟨w.heap.size, 1, none⟩ (.bool f1)).setCell ⟨w.heap.size, 2, none⟩ (.slice B2 n2 k2)).setCell ⟨w.heap.size, 3, none⟩ (.int .i64 f3)).setCell ⟨w.heap.size, 4, none⟩ (.slice B4 n4 k4)).setCell ⟨w.heap.size, 5, none⟩ (.int .i64 f5)).setCell ⟨w.heap.size, 6, none⟩ (.slice B6 n6 k6)) B6 n6 k6 L6 (fun _ => False)) := Lib.hid (G6.out.touch hT (fun a e h => by have h1 := (G6.out.blkF a e).1; have h2 := HB.out.size; omega) (fun _ h => h.elim))
    replace Zl : Hid (Zx (w.heap.size) [.int .i64 f0, .bool f1, .slice B2 n2 k2, .int .i64 f3, .slice B4 n4 k4, .int .i64 f5, .slice B6 n6 k6] (((((((w1.setCell ⟨w.heap.size, 0, none⟩ (.int .i64 f0)).setCell ⟨w.heap.size, 1, none⟩ (.bool f1)).setCell ⟨w.heap.size, 2, none⟩ (.slice B2 n2 k2)).setCell ⟨w.heap.size, 3, none⟩ (.int .i64 f3)).setCell ⟨w.heap.size, 4, none⟩ (.slice B4 n4 k4)).setCell ⟨w.heap.size, 5, none⟩ (.int .i64 f5)).setCell ⟨w.heap.size, 6, none⟩ (.slice B6 n6 k6))) := Lib.hid (((((((Zl.out.put 0 (.int .i64 f0)).put 1 (.bool f1)).put 2 (.slice B2 n2 k2)).put 3 (.int .i64 f3)).put 4 (.slice B4 n4 k4)).put 5 (.int .i64 f5)).put 6 (.slice B6 n6 k6))
    replace HB : Hid (Below w.heap.size w (((((((w1.setCell ⟨w.heap.size, 0, none⟩ (.int .i64 f0)).setCell ⟨w.heap.size, 1, none⟩ (.bool f1)).setCell ⟨w.heap.size, 2, none⟩ (.slice B2 n2 k2)).setCell ⟨w.heap.size, 3, none⟩ (.int .i64 f3)).setCell ⟨w.heap.size, 4, none⟩ (.slice B4 n4 k4)).setCell ⟨w.heap.size, 5, none⟩ (.int .i64 f5)).setCell ⟨w.heap.size, 6, none⟩ (.slice B6 n6 k6))) := Lib.hid (HB.out.trans (hT.below (fun b h => by rw [h]; omega) HB.out.size))
    clear hT
    go_upto_region 2 with (fail)
    clear zl0 zl1 zl2 zl3 zl4 zl5 zl6 fl
    clear zr0 zr1 zr2 zr3 zr4 zr5 zr6 fr
    have hsw2 : w1.heap.size ≤ (((((((w1.setCell ⟨w.heap.size, 0, none⟩ (.int .i64 f0)).setCell ⟨w.heap.size, 1, none⟩ (.bool f1)).setCell ⟨w.heap.size, 2, none⟩ (.slice B2 n2 k2)).setCell ⟨w.heap.size, 3, none⟩ (.int .i64 f3)).setCell ⟨w.heap.size, 4, none⟩ (.slice B4 n4 k4)).setCell ⟨w.heap.size, 5, none⟩ (.int .i64 f5)).setCell ⟨w.heap.size, 6, none⟩ (.slice B6 n6 k6)).heap.size := by (first | (simp; done) | (simp only [World.size_alloc, World.size_setCell]; omega))
    generalize (((((((w1.setCell ⟨w.heap.size, 0, none⟩ (.int .i64 f0)).setCell ⟨w.heap.size, 1, none⟩ (.bool f1)).setCell ⟨w.heap.size, 2, none⟩ (.slice B2 n2 k2)).setCell ⟨w.heap.size, 3, none⟩ (.int .i64 f3)).setCell ⟨w.heap.size, 4, none⟩ (.slice B4 n4 k4)).setCell ⟨w.heap.size, 5, none⟩ (.int .i64 f5)).setCell ⟨w.heap.size, 6, none⟩ (.slice B6 n6 k6)) = w2 at *
    obtain ⟨zl0, zl1, zl2, zl3, zl4, zl5, zl6, fl⟩ := Zl.out.c7
    obtain ⟨zr0, zr1, zr2, zr3, zr4, zr5, zr6, fr⟩ := Zr.out.c7
    go_wp2_with fail
    refine (implPlE L2 B2 n2 k2 x _ G2.out.owns.lies HT2.out hn2).mono ?_
    rintro e w3 ⟨rfl, hb⟩
    clear zl0 zl1 zl2 zl3 zl4 zl5 zl6 fl
    clear zr0 zr1 zr2 zr3 zr4 zr5 zr6 fr
    replace Zl : Hid (Zx (w.heap.size) [.int .i64 f0, .bool f1, .slice B2 n2 k2, .int .i64 f3, .slice B4 n4 k4, .int .i64 f5, .slice B6 n6 k6] w3) := Lib.hid (Zl.out.below hb)
    replace Zr : Hid (Zx (w.heap.size + 1) [.int .i64 0, .bool false, .slice none 0 0, .int .i64 0, .slice none 0 0, .int .i64 0, .slice none 0 0] w3) := Lib.hid (Zr.out.below hb)
    replace G2 : Hid (Grow 174 3 (w.heap.size + 1 + 1) w3 B2 n2 k2 L2 (fun _ => False)) := Lib.hid (G2.out.below hb)
    replace G4 : Hid (Grow 177 2 (w.heap.size + 1 + 1) w3 B4 n4 k4 L4 (fun _ => False)) := Lib.hid (G4.out.below hb)
    replace G6 : Hid (Grow 177 2 (w.heap.size + 1 + 1) w3 B6 n6 k6 L6 (fun _ => False)) := Lib.hid (G6.out.below hb)
    replace HB : Hid (Below w.heap.size w w3) := Lib.hid (HB.out.trans (hb.mono HB.out.size))
    have hsw3 : w2.heap.size ≤ w3.heap.size := (by have h1 := hb.size; (try simp only [World.size_alloc, World.size_setCell] at h1); exact h1)
    clear hb
    obtain ⟨zl0, zl1, zl2, zl3, zl4, zl5, zl6, fl⟩ := Zl.out.c7
    obtain ⟨zr0, zr1, zr2, zr3, zr4, zr5, zr6, fr⟩ := Zr.out.c7
    rw [HI.out]
    have hT : Touch (fun b => b = w.heap.size) w3 (w3.setCell ⟨w.heap.size, 3, none⟩ (.int .i64 (wrap64 (f3 + 1)))) := (Touch.refl (fun b => b = w.heap.size) w3).setCell (p := ⟨w.heap.size, 3, none⟩) rfl (.int .i64 (wrap64 (f3 + 1)))
    replace Zr : Hid (Zx (w.heap.size + 1) [.int .i64 0, .bool false, .slice none 0 0, .int .i64 0, .slice none 0 0, .int .i64 0, .slice none 0 0] (w3.setCell ⟨w.heap.size, 3, none⟩ (.int .i64 (wrap64 (f3 + 1))))) := Lib.hid (Zr.out.touch hT (by have h1 := HB.out.size; omega))
    replace G2 : Hid (Grow 174 3 (w.heap.size + 1 + 1) (w3.setCell ⟨w.heap.size, 3, none⟩ (.int .i64 (wrap64 (f3 + 1)))) B2 n2 k2 L2 (fun _ => False)) := Lib.hid (G2.out.touch hT (fun a e h => by have h1 := (G2.out.blkF a e).1; have h2 := HB.out.size; omega) (fun _ h => h.elim))
    replace G4 : Hid (Grow 177 2 (w.heap.size + 1 + 1) (w3.setCell ⟨w.heap.size, 3, none⟩ (.int .i64 (wrap64 (f3 + 1)))) B4 n4 k4 L4 (fun _ => False)) := Lib.hid (G4.out.touch hT (fun a e h => by have h1 := (G4.out.blkF a e).1; have h2 := HB.out.size; omega) (fun _ h => h.elim))
    replace G6 : Hid (Grow 177 2 (w.heap.size + 1 + 1) (w3.setCell ⟨w.heap.size, 3, none⟩ (.int .i64 (wrap64 (f3 + 1)))) B6 n6 k6 L6 (fun _ => False)) := Lib.hid (G6.out.touch hT (fun a e h => by have h1 := (G6.out.blkF a e).1; have h2 := HB.out.size; omega) (fun _ h => h.elim))
    replace Zl : Hid (Zx (w.heap.size) [.int .i64 f0, .bool f1, .slice B2 n2 k2, .int .i64 (wrap64 (f3 + 1)), .slice B4 n4 k4, .int .i64 f5, .slice B6 n6 k6] (w3.setCell ⟨w.heap.size, 3, none⟩ (.int .i64 (wrap64 (f3 + 1))))) := Lib.hid (Zl.out.put 3 (.int .i64 (wrap64 (f3 + 1))))
    replace HB : Hid (Below w.heap.size w (w3.setCell ⟨w.heap.size, 3, none⟩ (.int .i64 (wrap64 (f3 + 1))))) := Lib.hid (HB.out.trans (hT.below (fun b h => by rw [h]; omega) HB.out.size))
    clear hT
    go_upto_region 6 with (fail)
    clear zl0 zl1 zl2 zl3 zl4 zl5 zl6 fl
    clear zr0 zr1 zr2 zr3 zr4 zr5 zr6 fr
    have hsw4 : w3.heap.size ≤ (w3.setCell ⟨w.heap.size, 3, none⟩ (.int .i64 (wrap64 (f3 + 1)))).heap.size := by (first | (simp; done) | (simp only [World.size_alloc, World.size_setCell]; omega))
    generalize (w3.setCell ⟨w.heap.size, 3, none⟩ (.int .i64 (wrap64 (f3 + 1)))) = w4 at *
    obtain ⟨zl0, zl1, zl2, zl3, zl4, zl5, zl6, fl⟩ := Zl.out.c7
    obtain ⟨zr0, zr1, zr2, zr3, zr4, zr5, zr6, fr⟩ := Zr.out.c7
    have SL : Hid (Src 3 (w4.alloc (.cells #[.int .i64 (wrap64 (f3 + 1)), .int .i64 (x), .int .i64 (0)] 174)) (some ⟨w4.heap.size, 0, none⟩) 1 [Dat.r [.i (wrap64 (f3 + 1)), .i x, .i 0]] (fun _ => False)) := Lib.hid (by have h1 := Src.litK (w := w4) (E := 174) (C := #[.int .i64 (wrap64 (f3 + 1)), .int .i64 (x), .int .i64 (0)]) (d := Dat.r [.i (wrap64 (f3 + 1)), .i x, .i 0]) (k := 3) (X3.ic ⟨_, _, _, rfl⟩) rfl; (try simp only [World.size_alloc, World.size_setCell] at h1); exact h1)
    have GA : Hid (Grow 174 3 (w.heap.size + 1 + 1) (w4.alloc (.cells #[.int .i64 (wrap64 (f3 + 1)), .int .i64 (x), .int .i64 (0)] 174)) B2 n2 k2 L2 (fun _ => False)) := Lib.hid (G2.out.below ((Below.refl _ _).alloc (Nat.le_refl _) _))
    go_upto_region 7 with (first
      | (refine wpList_append_dat _ rfl _ _ 94 rfl 3 (by omega) 174 i0 _ 24 Try.underlying94 hi hz0 hz1 rfl hz2 (w.heap.size + 1 + 1) B2 n2 k2 L2 (fun _ => False) rfl GA.out (some ⟨w4.heap.size, 0, none⟩) 1 1 [Dat.r [.i (wrap64 (f3 + 1)), .i x, .i 0]] (fun _ => False) rfl SL.out (fun b h => h.elim) (fun a e h => h) (by unfold maxLen; omega) (by omega) (by first | (simp; done) | (simp only [World.size_alloc, World.size_setCell]; omega)) ?_; intro C2 j2 w5 hG hT9 hA; clear GA SL; clear zl0 zl1 zl2 zl3 zl4 zl5 zl6 fl; clear zr0 zr1 zr2 zr3 zr4 zr5 zr6 fr; have hT : Touch (fun b => ∃ a, B2 = some a ∧ b = a.block) w4 w5 := (Touch.of_below ((Below.refl _ _).alloc (Nat.le_refl _) _)).trans hT9; clear hT9; have hlt : ∀ a, B2 = some a → w.heap.size + 1 + 1 ≤ a.block := fun a e => (G2.out.blkF a e).1; replace hA : ∀ a, C2 = some a → B2 = some a ∨ w4.heap.size ≤ a.block := (fun a e => (hA a e).imp id (fun h => by have h1 := h; (try simp only [World.size_alloc, World.size_setCell] at h1); omega)); have Q24 : Apart B4 B2 := P24.out.symm; have hq24 : ∀ a, B4 = some a → a.block < w4.heap.size := (fun a e => by have h1 := (G4.out.blkF a e).2; (try simp only [World.size_alloc, World.size_setCell] at h1); omega); replace P24 := Lib.hid ((Q24.grown hA hq24).symm); have Q26 : Apart B6 B2 := P26.out.symm; have hq26 : ∀ a, B6 = some a → a.block < w4.heap.size := (fun a e => by have h1 := (G6.out.blkF a e).2; (try simp only [World.size_alloc, World.size_setCell] at h1); omega); replace P26 := Lib.hid ((Q26.grown hA hq26).symm); replace Zl : Hid (Zx (w.heap.size) [.int .i64 f0, .bool f1, .slice B2 n2 k2, .int .i64 (wrap64 (f3 + 1)), .slice B4 n4 k4, .int .i64 f5, .slice B6 n6 k6] w5) := Lib.hid (Zl.out.touch hT (fun ⟨a, e, hx⟩ => by have h1 := hlt a e; have h2 := HB.out.size; omega)); replace Zr : Hid (Zx (w.heap.size + 1) [.int .i64 0, .bool false, .slice none 0 0, .int .i64 0, .slice none 0 0, .int .i64 0, .slice none 0 0] w5) := Lib.hid (Zr.out.touch hT (fun ⟨a, e, hx⟩ => by have h1 := hlt a e; have h2 := HB.out.size; omega)); replace G4 : Hid (Grow 177 2 (w.heap.size + 1 + 1) w5 B4 n4 k4 L4 (fun _ => False)) := Lib.hid (G4.out.apart_touch Q24 hT); clear Q24 hq24; replace G6 : Hid (Grow 177 2 (w.heap.size + 1 + 1) w5 B6 n6 k6 L6 (fun _ => False)) := Lib.hid (G6.out.apart_touch Q26 hT); clear Q26 hq26; replace G2 : Hid (Grow 174 3 (w.heap.size + 1 + 1) w5 C2 (n2 + 1) j2 (L2 ++ [Dat.r [.i (wrap64 (f3 + 1)), .i x, .i 0]]) (fun _ => False)) := Lib.hid (hG.noF (fun b h => h.elim (fun h => h) (fun h => h))); replace HB : Hid (Below w.heap.size w w5) := Lib.hid (HB.out.trans (hT.below (fun b ⟨a, e, hx⟩ => by have h1 := hlt a e; omega) HB.out.size)); have hsw5 : w4.heap.size ≤ w5.heap.size := (by have h1 := hT.size; (try simp only [World.size_alloc, World.size_setCell] at h1); exact h1); clear hG hA hT hlt; obtain ⟨zl0, zl1, zl2, zl3, zl4, zl5, zl6, fl⟩ := Zl.out.c7; obtain ⟨zr0, zr1, zr2, zr3, zr4, zr5, zr6, fr⟩ := Zr.out.c7)
      | fail)
    have hT : Touch (fun b => b = w.heap.size) w5 (w5.setCell ⟨w.heap.size, 2, none⟩ (.slice C2 (n2 + 1) j2)) := (Touch.refl (fun b => b = w.heap.size) w5).setCell (p := ⟨w.heap.size, 2, none⟩) rfl (.slice C2 (n2 + 1) j2)
    replace Zr : Hid (Zx (w.heap.size + 1) [.int .i64 0, .bool false, .slice none 0 0, .int .i64 0, .slice none 0 0, .int .i64 0, .slice none 0 0] (w5.setCell ⟨w.heap.size, 2, none⟩ (.slice C2 (n2 + 1) j2))) := Lib.hid (Zr.out.touch hT (by have h1 := HB.out.size; omega))
    replace G2 : Hid (Grow 174 3 (w.heap.size + 1 + 1) (w5.setCell ⟨w.heap.size, 2, none⟩ (.slice C2 (n2 + 1) j2)) C2 (n2 + 1) j2 (L2 ++ [Dat.r [.i (wrap64 (f3 + 1)), .i x, .i 0]]) (fun _ => False)) := Lib.hid (G2.out.touch hT (fun a e h => by have h1 := (G2.out.blkF a e).1; have h2 := HB.out.size; omega) (fun _ h => h.elim))
    replace G4 : Hid (Grow 177 2 (w.heap.size + 1 + 1) (w5.setCell ⟨w.heap.size, 2, none⟩ (.slice C2 (n2 + 1) j2)) B4 n4 k4 L4 (fun _ => False)) := Lib.hid (G4.out.touch hT (fun a e h => by have h1 := (G4.out.blkF a e).1; have h2 := HB.out.size; omega) (fun _ h => h.elim))
    replace G6 : Hid (Grow 177 2 (w.heap.size + 1 + 1) (w5.setCell ⟨w.heap.size, 2, none⟩ (.slice C2 (n2 + 1) j2)) B6 n6 k6 L6 (fun _ => False)) := Lib.hid (G6.out.touch hT (fun a e h => by have h1 := (G6.out.blkF a e).1; have h2 := HB.out.size; omega) (fun _ h => h.elim))
    replace Zl : Hid (Zx (w.heap.size) [.int .i64 f0, .bool f1, .slice C2 (n2 + 1) j2, .int .i64 (wrap64 (f3 + 1)), .slice B4 n4 k4, .int .i64 f5, .slice B6 n6 k6] (w5.setCell ⟨w.heap.size, 2, none⟩ (.slice C2 (n2 + 1) j2))) := Lib.hid (Zl.out.put 2 (.slice C2 (n2 + 1) j2))
    replace HB : Hid (Below w.heap.size w (w5.setCell ⟨w.heap.size, 2, none⟩ (.slice C2 (n2 + 1) j2))) := Lib.hid (HB.out.trans (hT.below (fun b h => by rw [h]; omega) HB.out.size))
    clear hT
    clear zl0 zl1 zl2 zl3 zl4 zl5 zl6 fl
    clear zr0 zr1 zr2 zr3 zr4 zr5 zr6 fr
    have hsw6 : w5.heap.size ≤ (w5.setCell ⟨w.heap.size, 2, none⟩ (.slice C2 (n2 + 1) j2)).heap.size := by (first | (simp; done) | (simp only [World.size_alloc, World.size_setCell]; omega))
    generalize (w5.setCell ⟨w.heap.size, 2, none⟩ (.slice C2 (n2 + 1) j2)) = w6 at *
    obtain ⟨zl0, zl1, zl2, zl3, zl4, zl5, zl6, fl⟩ := Zl.out.c7
    obtain ⟨zr0, zr1, zr2, zr3, zr4, zr5, zr6, fr⟩ := Zr.out.c7
    have hI2 : Hid (∀ y ∈ (L2 ++ [Dat.r [.i (wrap64 (f3 + 1)), .i x, .i 0]]), Ic 3 y) := Lib.hid (fun y hy => (List.mem_append.1 hy).elim (fun h => (x3_of (HT2.out y h)).ic) (fun h => by rw [List.mem_singleton.1 h]; exact X3.ic ⟨_, _, _, rfl⟩))
    have hd2 : Hid ((L2 ++ [Dat.r [.i (wrap64 (f3 + 1)), .i x, .i 0]])[n2]? = some (Dat.r [.i (wrap64 (f3 + 1)), .i x, .i 0])) := Lib.hid (by have h1 := HC2.out; rw [List.getElem?_append_right (by omega), h1, Nat.sub_self]; rfl)
    clear zl0 zl1 zl2 zl3 zl4 zl5 zl6 fl
    obtain ⟨g2, hgA, hglo2, hglt2, hgc2, hgcell, fg2⟩ := G2.out.elem hI2.out hd2.out
    subst hgA
    have r0 : w6.cell? ⟨g2, n2 * 3, none⟩ = some (.int .i64 (wrap64 (f3 + 1))) := hgcell 0 _ rfl
    have r1 : w6.cell? ⟨g2, n2 * 3 + 1, none⟩ = some (.int .i64 (x)) := hgcell 1 _ rfl
    have r2 : w6.cell? ⟨g2, n2 * 3 + 2, none⟩ = some (.int .i64 (0)) := hgcell 2 _ rfl
    clear hgcell
    obtain ⟨zl0, zl1, zl2, zl3, zl4, zl5, zl6, fl⟩ := Zl.out.c7
    have hx1 : (n2 : Int) < (n2 : Int) + 1 := by omega
    go_upto_region 8 with (fail)
    have hT : Touch (fun b => b = g2) w6 (w6.setCell ⟨g2, n2 * 3 + 2, none⟩ (.int .i64 1)) := (Touch.refl (fun b => b = g2) w6).setCell (p := ⟨g2, n2 * 3 + 2, none⟩) rfl (.int .i64 1)
    replace Zl : Hid (Zx (w.heap.size) [.int .i64 f0, .bool f1, .slice (some ⟨g2, 0, none⟩) (n2 + 1) j2, .int .i64 (wrap64 (f3 + 1)), .slice B4 n4 k4, .int .i64 f5, .slice B6 n6 k6] (w6.setCell ⟨g2, n2 * 3 + 2, none⟩ (.int .i64 1))) := Lib.hid (Zl.out.touch hT (by have h1 := HB.out.size; omega))
    replace Zr : Hid (Zx (w.heap.size + 1) [.int .i64 0, .bool false, .slice none 0 0, .int .i64 0, .slice none 0 0, .int .i64 0, .slice none 0 0] (w6.setCell ⟨g2, n2 * 3 + 2, none⟩ (.int .i64 1))) := Lib.hid (Zr.out.touch hT (by have h1 := HB.out.size; omega))
    replace G4 : Hid (Grow 177 2 (w.heap.size + 1 + 1) (w6.setCell ⟨g2, n2 * 3 + 2, none⟩ (.int .i64 1)) B4 n4 k4 L4 (fun _ => False)) := Lib.hid (G4.out.touch hT (fun a e h => (fun x => P24.out _ a rfl e x.symm) h) (fun _ h => h.elim))
    replace G6 : Hid (Grow 177 2 (w.heap.size + 1 + 1) (w6.setCell ⟨g2, n2 * 3 + 2, none⟩ (.int .i64 1)) B6 n6 k6 L6 (fun _ => False)) := Lib.hid (G6.out.touch hT (fun a e h => (fun x => P26.out _ a rfl e x.symm) h) (fun _ h => h.elim))
    replace G2 : Hid (Grow 174 3 (w.heap.size + 1 + 1) (w6.setCell ⟨g2, n2 * 3 + 2, none⟩ (.int .i64 1)) (some ⟨g2, 0, none⟩) (n2 + 1) j2 (((L2 ++ [Dat.r [.i (wrap64 (f3 + 1)), .i x, .i 0]])).set n2 (Dat.r [.i (wrap64 (f3 + 1)), .i x, .i 1])) (fun _ => False)) := Lib.hid (G2.out.set1 hI2.out (X3.ic ⟨_, _, _, rfl⟩) hd2.out (by omega) rfl)
    replace HB : Hid (Below w.heap.size w (w6.setCell ⟨g2, n2 * 3 + 2, none⟩ (.int .i64 1))) := Lib.hid (HB.out.trans (hT.below (fun b h => by rw [h]; omega) HB.out.size))
    clear hT
    clear zl0 zl1 zl2 zl3 zl4 zl5 zl6 fl
    clear zr0 zr1 zr2 zr3 zr4 zr5 zr6 fr
    clear r0 r1 r2 fg2 hx1
    have HG2 := G2.out
    rw [set_last HC2.out] at HG2
    replace G2 : Hid (Grow 174 3 (w.heap.size + 1 + 1) (w6.setCell ⟨g2, n2 * 3 + 2, none⟩ (.int .i64 1)) (some ⟨g2, 0, none⟩) (n2 + 1) j2 (L2 ++ [Dat.r [.i (wrap64 (f3 + 1)), .i x, .i 1]]) (fun _ => False)) := Lib.hid HG2
    clear HG2
    have hI3 : Hid (∀ y ∈ (L2 ++ [Dat.r [.i (wrap64 (f3 + 1)), .i x, .i 1]]), Ic 3 y) := Lib.hid (fun y hy => (List.mem_append.1 hy).elim (fun h => (x3_of (HT2.out y h)).ic) (fun h => by rw [List.mem_singleton.1 h]; exact X3.ic ⟨_, _, _, rfl⟩))
    have hd3 : Hid ((L2 ++ [Dat.r [.i (wrap64 (f3 + 1)), .i x, .i 1]])[n2]? = some (Dat.r [.i (wrap64 (f3 + 1)), .i x, .i 1])) := Lib.hid (by have h1 := HC2.out; rw [List.getElem?_append_right (by omega), h1, Nat.sub_self]; rfl)
    have hsw7 : w6.heap.size ≤ (w6.setCell ⟨g2, n2 * 3 + 2, none⟩ (.int .i64 1)).heap.size := by (first | (simp; done) | (simp only [World.size_alloc, World.size_setCell]; omega))
    generalize (w6.setCell ⟨g2, n2 * 3 + 2, none⟩ (.int .i64 1)) = w7 at *
    obtain ⟨zl0, zl1, zl2, zl3, zl4, zl5, zl6, fl⟩ := Zl.out.c7
    obtain ⟨zr0, zr1, zr2, zr3, zr4, zr5, zr6, fr⟩ := Zr.out.c7
    obtain ⟨hgcell, fg2, hglt⟩ := G2.out.elem1 hI3.out hd3.out
    have r0 : w7.cell? ⟨g2, n2 * 3, none⟩ = some (.int .i64 (wrap64 (f3 + 1))) := hgcell 0 _ rfl
    have r1 : w7.cell? ⟨g2, n2 * 3 + 1, none⟩ = some (.int .i64 (x)) := hgcell 1 _ rfl
    have r2 : w7.cell? ⟨g2, n2 * 3 + 2, none⟩ = some (.int .i64 (1)) := hgcell 2 _ rfl
    clear hgcell
    have hx1 : (n2 : Int) < (n2 : Int) + 1 := by omega
    have E2 : Hid (n2 + 1 = (putL x (wrap64 (f3 + 1)) L2).length) := Lib.hid (by rw [HP.out, List.length_append, HC2.out]; rfl)
    go_region_law (fail)
    all_goals (
      go_wp2_with fail
      refine bodyPost_ret (v := .tuple #[.agg #[.int .i64 f0, .bool f1, .slice (some ⟨g2, 0, none⟩) (n2 + 1) j2, .int .i64 (wrap64 (f3 + 1)), .slice B4 n4 k4, .int .i64 f5, .slice B6 n6 k6], .int .i64 (wrap64 (f3 + 1))]) ?hres rfl ?hpost
      case hres =>
        refine results_box2 rfl _ _ (w.heap.size + 1) [.int .i64 f0, .bool f1, .slice (some ⟨g2, 0, none⟩) (n2 + 1) j2, .int .i64 (wrap64 (f3 + 1)), .slice B4 n4 k4, .int .i64 f5, .slice B6 n6 k6] (.int .i64 (wrap64 (f3 + 1))) _ rfl rfl ?_ Try.underlying97 rfl (by kernel_rfl)
        refine Zx.box ?_
        repeat (first | with_reducible exact Zr.out | with_reducible refine Zx.drewB ?_ | with_reducible apply Zx.put7)
      case hpost =>
        suffices h9 : ∀ w' : World, Touch (fun b => b = w.heap.size + 1) w7 w' → GivesLI f0 f1 (putL x (wrap64 (f3 + 1)) L2) (putL x (wrap64 (f3 + 1)) L2).length (putN x f3 L2) L4 n4 f5 L6 n6 (putP x (wrap64 (f3 + 1)) L2) w (.returned (.tuple #[.agg #[.int .i64 f0, .bool f1, .slice (some ⟨g2, 0, none⟩) (n2 + 1) j2, .int .i64 (wrap64 (f3 + 1)), .slice B4 n4 k4, .int .i64 f5, .slice B6 n6 k6], .int .i64 (wrap64 (f3 + 1))])) w' from h9 _ (by repeat (first | with_reducible exact Touch.refl _ _ | with_reducible refine Touch.drew ?_ | with_reducible refine Touch.put7 ?_ (Eq.refl _)))
        intro w' hT9
        obtain ⟨hL9, hB9⟩ := Link3.fin (W := w) (g := w.heap.size + 1) G2.out G4.out G6.out P24.out P26.out P46.out hT9 HB.out (by omega) (by omega)
        exact GivesLI.of ⟨_, _, _, _, _, _, rfl, hL9, hB9⟩ HP.out.symm E2.out HN.out.symm HV.out.symm)
  · obtain ⟨a, b, c, rfl⟩ := x3_of (ht2 d (List.mem_of_getElem? h2))
    have HI := Lib.hid h1
    have HD := Lib.hid h2
    have HP := Lib.hid (putL_some (nx := wrap64 (f3 + 1)) h5 h2 h3)
    have HV : Hid (putP x (wrap64 (f3 + 1)) L2 = a) := Lib.hid (look_at h5 h2 h3)
    have HN := Lib.hid (putN_some (f := f3) h1)
    have hil : i < n2 := by have := HC2.out; omega
    clear h1 h2 h3 h4 h5
    have HL2 := Lib.hid hl2
    have HT2 := Lib.hid ht2
    have HL4 := Lib.hid hl4
    have HT4 := Lib.hid ht4
    have HL6 := Lib.hid hl6
    have HT6 := Lib.hid ht6
    clear hl2 hl4 hl6 ht2 ht4 ht6
    obtain ⟨i0, hi, hz0, hz1, hz2⟩ := info_parts infoExport
    obtain ⟨i1, hj, hy0, hy1, hy2⟩ := info_parts infoQuestion
    have HB : Hid (Below w.heap.size w w) := Lib.hid (Below.refl _ _)
    have Zl : Hid (Zx (w.heap.size) [.int .i64 f0, .bool f1, .slice A2 n2 c2, .int .i64 f3, .slice A4 n4 c4, .int .i64 f5, .slice A6 n6 c6] (w.alloc (.cells #[.int .i64 f0, .bool f1, .slice A2 n2 c2, .int .i64 f3, .slice A4 n4 c4, .int .i64 f5, .slice A6 n6 c6] 97))) := Lib.hid (Zx.new _ _ _)
    replace HB : Hid (Below w.heap.size w (w.alloc (.cells #[.int .i64 f0, .bool f1, .slice A2 n2 c2, .int .i64 f3, .slice A4 n4 c4, .int .i64 f5, .slice A6 n6 c6] 97))) := Lib.hid (HB.out.alloc HB.out.size _)
    replace Zl : Hid (Zx (w.heap.size) [.int .i64 f0, .bool f1, .slice A2 n2 c2, .int .i64 f3, .slice A4 n4 c4, .int .i64 f5, .slice A6 n6 c6] ((w.alloc (.cells #[.int .i64 f0, .bool f1, .slice A2 n2 c2, .int .i64 f3, .slice A4 n4 c4, .int .i64 f5, .slice A6 n6 c6] 97)).alloc (.cells #[.int .i64 0, .bool false, .slice none 0 0, .int .i64 0, .slice none 0 0, .int .i64 0, .slice none 0 0] 97))) := Lib.hid (Zl.out.below ((Below.refl _ _).alloc (Nat.le_refl _) _))
    have Zr : Hid (Zx (w.heap.size + 1) [.int .i64 0, .bool false, .slice none 0 0, .int .i64 0, .slice none 0 0, .int .i64 0, .slice none 0 0] ((w.alloc (.cells #[.int .i64 f0, .bool f1, .slice A2 n2 c2, .int .i64 f3, .slice A4 n4 c4, .int .i64 f5, .slice A6 n6 c6] 97)).alloc (.cells #[.int .i64 0, .bool false, .slice none 0 0, .int .i64 0, .slice none 0 0, .int .i64 0, .slice none 0 0] 97))) := Lib.hid (by have h1 := Zx.new (w.alloc (.cells #[.int .i64 f0, .bool f1, .slice A2 n2 c2, .int .i64 f3, .slice A4 n4 c4, .int .i64 f5, .slice A6 n6 c6] 97)) #[.int .i64 0, .bool false, .slice none 0 0, .int .i64 0, .slice none 0 0, .int .i64 0, .slice none 0 0] 97; (try simp only [World.size_alloc, World.size_setCell] at h1); exact h1)
    replace HB : Hid (Below w.heap.size w ((w.alloc (.cells #[.int .i64 f0, .bool f1, .slice A2 n2 c2, .int .i64 f3, .slice A4 n4 c4, .int .i64 f5, .slice A6 n6 c6] 97)).alloc (.cells #[.int .i64 0, .bool false, .slice none 0 0, .int .i64 0, .slice none 0 0, .int .i64 0, .slice none 0 0] 97))) := Lib.hid (HB.out.alloc HB.out.size _)
    go_enter Try.func125, Try.ntmps125
    go_wp2_with fail
    refine (implCopy f0 f1 L2 A2 n2 c2 f3 L4 A4 n4 c4 f5 L6 A6 n6 c6 _ (HL2.out.below HB.out) HT2.out (HL4.out.below HB.out) HT4.out (HL6.out.below HB.out) HT6.out hn2 hn4 hn6).mono ?_
    rintro e w1 ⟨B2, k2, B4, k4, B6, k6, rfl, hK, hb⟩
    replace Zl : Hid (Zx (w.heap.size) [.int .i64 f0, .bool f1, .slice A2 n2 c2, .int .i64 f3, .slice A4 n4 c4, .int .i64 f5, .slice A6 n6 c6] w1) := Lib.hid (Zl.out.below hb)
    replace Zr : Hid (Zx (w.heap.size + 1) [.int .i64 0, .bool false, .slice none 0 0, .int .i64 0, .slice none 0 0, .int .i64 0, .slice none 0 0] w1) := Lib.hid (Zr.out.below hb)
    replace HB : Hid (Below w.heap.size w w1) := Lib.hid (HB.out.trans (hb.mono HB.out.size))
    have hsw1 : w.heap.size + 1 + 1 ≤ w1.heap.size := (by have h1 := hb.size; (try simp only [World.size_alloc, World.size_setCell] at h1); exact h1)
    have G2 : Hid (Grow 174 3 (w.heap.size + 1 + 1) w1 B2 n2 k2 L2 (fun _ => False)) := Lib.hid (by have h1 := hK.g2; (try simp only [World.size_alloc] at h1); exact h1)
    have G4 : Hid (Grow 177 2 (w.heap.size + 1 + 1) w1 B4 n4 k4 L4 (fun _ => False)) := Lib.hid (by have h1 := hK.g4; (try simp only [World.size_alloc] at h1); exact h1)
    have G6 : Hid (Grow 177 2 (w.heap.size + 1 + 1) w1 B6 n6 k6 L6 (fun _ => False)) := Lib.hid (by have h1 := hK.g6; (try simp only [World.size_alloc] at h1); exact h1)
    have P24 := Lib.hid hK.p24
    have P26 := Lib.hid hK.p26
    have P46 := Lib.hid hK.p46
    clear hK hb
    obtain ⟨zl0, zl1, zl2, zl3, zl4, zl5, zl6, fl⟩ := Zl.out.c7
    obtain ⟨zr0, zr1, zr2, zr3, zr4, zr5, zr6, fr⟩ := Zr.out.c7
    have hT : Touch (fun b => b = w.heap.size) w1 (((((((w1.setCell ⟨w.heap.size, 0, none⟩ (.int .i64 f0)).setCell ⟨w.heap.size, 1, none⟩ (.bool f1)).setCell ⟨w.heap.size, 2, none⟩ (.slice B2 n2 k2)).setCell ⟨w.heap.size, 3, none⟩ (.int .i64 f3)).setCell ⟨w.heap.size, 4, none⟩ (.slice B4 n4 k4)).setCell ⟨w.heap.size, 5, none⟩ (.int .i64 f5)).setCell ⟨w.heap.size, 6, none⟩ (.slice B6 n6 k6)) := (((((((Touch.refl (fun b => b = w.heap.size) w1).setCell (p := ⟨w.heap.size, 0, none⟩) rfl (.int .i64 f0)).setCell (p := ⟨w.heap.size, 1, none⟩) rfl (.bool f1)).setCell (p := ⟨w.heap.size, 2, none⟩) rfl (.slice B2 n2 k2)).setCell (p := ⟨w.heap.size, 3, none⟩) rfl (.int .i64 f3)).setCell (p := ⟨w.heap.size, 4, none⟩) rfl (.slice B4 n4 k4)).setCell (p := ⟨w.heap.size, 5, none⟩) rfl (.int .i64 f5)).setCell (p := ⟨w.heap.size, 6, none⟩) rfl (.slice B6 n6 k6)
    replace Zr : Hid (Zx (w.heap.size + 1) [.int .i64 0, .bool false, .slice none 0 0, .int .i64 0, .slice none 0 0, .int .i64 0, .slice none 0 0] (((((((w1.setCell ⟨w.heap.size, 0, none⟩ (.int .i64 f0)).setCell ⟨w.heap.size, 1, none⟩ (.bool f1)).setCell ⟨w.heap.size, 2, none⟩ (.slice B2 n2 k2)).setCell ⟨w.heap.size, 3, none⟩ (.int .i64 f3)).setCell ⟨w.heap.size, 4, none⟩ (.slice B4 n4 k4)).setCell ⟨w.heap.size, 5, none⟩ (.int .i64 f5)).setCell ⟨w.heap.size, 6, none⟩ (.slice B6 n6 k6))) := Lib.hid (Zr.out.touch hT (by have h1 := HB.out.size; omega))
    replace G2 : Hid (Grow 174 3 (w.heap.size + 1 + 1) (((((((w1.setCell ⟨w.heap.size, 0, none⟩ (.int .i64 f0)).setCell ⟨w.heap.size, 1, none⟩ (.bool f1)).setCell ⟨w.heap.size, 2, none⟩ (.slice B2 n2 k2)).setCell ⟨w.heap.size, 3, none⟩ (.int .i64 f3)).setCell ⟨w.heap.size, 4, none⟩ (.slice B4 n4 k4)).setCell ⟨w.heap.size, 5, none⟩ (.int .i64 f5)).setCell ⟨w.heap.size, 6, none⟩ (.slice B6 n6 k6)) B2 n2 k2 L2 (fun _ => False)) := Lib.hid (G2.out.touch hT (fun a e h => by have h1 := (G2.out.blkF a e).1; have h2 := HB.out.size; omega) (fun _ h => h.elim))
    replace G4 : Hid (Grow 177 2 (w.heap.size + 1 + 1) (((((((w1.setCell ⟨w.heap.size, 0, none⟩ (.int .i64 f0)).setCell ⟨w.heap.size, 1, none⟩ (.bool f1)).setCell ⟨w.heap.size, 2, none⟩ (.slice B2 n2 k2)).setCell ⟨w.heap.size, 3, none⟩ (.int .i64 f3)).setCell ⟨w.heap.size, 4, none⟩ (.slice B4 n4 k4)).setCell ⟨w.heap.size, 5, none⟩ (.int .i64 f5)).setCell ⟨w.heap.size, 6, none⟩ (.slice B6 n6 k6)) B4 n4 k4 L4 (fun _ => False)) := Lib.hid (G4.out.touch hT (fun a e h => by have h1 := (G4.out.blkF a e).1; have h2 := HB.out.size; omega) (fun _ h => h.elim))
    replace G6 : Hid (Grow 177 2 (w.heap.size + 1 + 1) (((((((w1.setCell ⟨w.heap.size, 0, none⟩ (.int .i64 f0)).setCell ⟨w.heap.size, 1, none⟩ (.bool f1)).setCell ⟨w.heap.size, 2, none⟩ (.slice B2 n2 k2)).setCell ⟨w.heap.size, 3, none⟩ (.int .i64 f3)).setCell ⟨w.heap.size, 4, none⟩ (.slice B4 n4 k4)).setCell ⟨w.heap.size, 5, none⟩ (.int .i64 f5)).setCell ⟨w.heap.size, 6, none⟩ (.slice B6 n6 k6)) B6 n6 k6 L6 (fun _ => False)) := Lib.hid (G6.out.touch hT (fun a e h => by have h1 := (G6.out.blkF a e).1; have h2 := HB.out.size; omega) (fun _ h => h.elim))
    replace Zl : Hid (Zx (w.heap.size) [.int .i64 f0, .bool f1, .slice B2 n2 k2, .int .i64 f3, .slice B4 n4 k4, .int .i64 f5, .slice B6 n6 k6] (((((((w1.setCell ⟨w.heap.size, 0, none⟩ (.int .i64 f0)).setCell ⟨w.heap.size, 1, none⟩ (.bool f1)).setCell ⟨w.heap.size, 2, none⟩ (.slice B2 n2 k2)).setCell ⟨w.heap.size, 3, none⟩ (.int .i64 f3)).setCell ⟨w.heap.size, 4, none⟩ (.slice B4 n4 k4)).setCell ⟨w.heap.size, 5, none⟩ (.int .i64 f5)).setCell ⟨w.heap.size, 6, none⟩ (.slice B6 n6 k6))) := Lib.hid (((((((Zl.out.put 0 (.int .i64 f0)).put 1 (.bool f1)).put 2 (.slice B2 n2 k2)).put 3 (.int .i64 f3)).put 4 (.slice B4 n4 k4)).put 5 (.int .i64 f5)).put 6 (.slice B6 n6 k6))
    replace HB : Hid (Below w.heap.size w (((((((w1.setCell ⟨w.heap.size, 0, none⟩ (.int .i64 f0)).setCell ⟨w.heap.size, 1, none⟩ (.bool f1)).setCell ⟨w.heap.size, 2, none⟩ (.slice B2 n2 k2)).setCell ⟨w.heap.size, 3, none⟩ (.int .i64 f3)).setCell ⟨w.heap.size, 4, none⟩ (.slice B4 n4 k4)).setCell ⟨w.heap.size, 5, none⟩ (.int .i64 f5)).setCell ⟨w.heap.size, 6, none⟩ (.slice B6 n6 k6))) := Lib.hid (HB.out.trans (hT.below (fun b h => by rw [h]; omega) HB.out.size))
    clear hT
    go_upto_region 2 with (fail)
    clear zl0 zl1 zl2 zl3 zl4 zl5 zl6 fl
    clear zr0 zr1 zr2 zr3 zr4 zr5 zr6 fr
    have hsw2 : w1.heap.size ≤ (((((((w1.setCell ⟨w.heap.size, 0, none⟩ (.int .i64 f0)).setCell ⟨w.heap.size, 1, none⟩ (.bool f1)).setCell ⟨w.heap.size, 2, none⟩ (.slice B2 n2 k2)).setCell ⟨w.heap.size, 3, none⟩ (.int .i64 f3)).setCell ⟨w.heap.size, 4, none⟩ (.slice B4 n4 k4)).setCell ⟨w.heap.size, 5, none⟩ (.int .i64 f5)).setCell ⟨w.heap.size, 6, none⟩ (.slice B6 n6 k6)).heap.size := by (first | (simp; done) | (simp only [World.size_alloc, World.size_setCell]; omega))
    generalize (((((((w1.setCell ⟨w.heap.size, 0, none⟩ (.int .i64 f0)).setCell ⟨w.heap.size, 1, none⟩ (.bool f1)).setCell ⟨w.heap.size, 2, none⟩ (.slice B2 n2 k2)).setCell ⟨w.heap.size, 3, none⟩ (.int .i64 f3)).setCell ⟨w.heap.size, 4, none⟩ (.slice B4 n4 k4)).setCell ⟨w.heap.size, 5, none⟩ (.int .i64 f5)).setCell ⟨w.heap.size, 6, none⟩ (.slice B6 n6 k6)) = w2 at *
    obtain ⟨zl0, zl1, zl2, zl3, zl4, zl5, zl6, fl⟩ := Zl.out.c7
    obtain ⟨zr0, zr1, zr2, zr3, zr4, zr5, zr6, fr⟩ := Zr.out.c7
    go_wp2_with fail
    refine (implPlE L2 B2 n2 k2 x _ G2.out.owns.lies HT2.out hn2).mono ?_
    rintro e w3 ⟨rfl, hb⟩
    clear zl0 zl1 zl2 zl3 zl4 zl5 zl6 fl
    clear zr0 zr1 zr2 zr3 zr4 zr5 zr6 fr
    replace Zl : Hid (Zx (w.heap.size) [.int .i64 f0, .bool f1, .slice B2 n2 k2, .int .i64 f3, .slice B4 n4 k4, .int .i64 f5, .slice B6 n6 k6] w3) := Lib.hid (Zl.out.below hb)
    replace Zr : Hid (Zx (w.heap.size + 1) [.int .i64 0, .bool false, .slice none 0 0, .int .i64 0, .slice none 0 0, .int .i64 0, .slice none 0 0] w3) := Lib.hid (Zr.out.below hb)
    replace G2 : Hid (Grow 174 3 (w.heap.size + 1 + 1) w3 B2 n2 k2 L2 (fun _ => False)) := Lib.hid (G2.out.below hb)
    replace G4 : Hid (Grow 177 2 (w.heap.size + 1 + 1) w3 B4 n4 k4 L4 (fun _ => False)) := Lib.hid (G4.out.below hb)
    replace G6 : Hid (Grow 177 2 (w.heap.size + 1 + 1) w3 B6 n6 k6 L6 (fun _ => False)) := Lib.hid (G6.out.below hb)
    replace HB : Hid (Below w.heap.size w w3) := Lib.hid (HB.out.trans (hb.mono HB.out.size))
    have hsw3 : w2.heap.size ≤ w3.heap.size := (by have h1 := hb.size; (try simp only [World.size_alloc, World.size_setCell] at h1); exact h1)
    clear hb
    obtain ⟨zl0, zl1, zl2, zl3, zl4, zl5, zl6, fl⟩ := Zl.out.c7
    obtain ⟨zr0, zr1, zr2, zr3, zr4, zr5, zr6, fr⟩ := Zr.out.c7
    rw [HI.out]
    have hlt0 : (decide ((i : Int) < 0)) = false := by (simp; try omega)
    clear zl0 zl1 zl2 zl3 zl4 zl5 zl6 fl
    obtain ⟨g2, hgA, hglo2, hglt2, hgc2, hgcell, fg2⟩ := G2.out.elem (fun y hy => (x3_of (HT2.out y hy)).ic) HD.out
    subst hgA
    have r0 : w3.cell? ⟨g2, i * 3, none⟩ = some (.int .i64 (a)) := hgcell 0 _ rfl
    have r1 : w3.cell? ⟨g2, i * 3 + 1, none⟩ = some (.int .i64 (b)) := hgcell 1 _ rfl
    have r2 : w3.cell? ⟨g2, i * 3 + 2, none⟩ = some (.int .i64 (c)) := hgcell 2 _ rfl
    clear hgcell
    obtain ⟨zl0, zl1, zl2, zl3, zl4, zl5, zl6, fl⟩ := Zl.out.c7
    go_upto_region 8 with (fail)
    have hT : Touch (fun b => b = g2) w3 (w3.setCell ⟨g2, i * 3 + 2, none⟩ (.int .i64 (wrap64 (c + 1)))) := (Touch.refl (fun b => b = g2) w3).setCell (p := ⟨g2, i * 3 + 2, none⟩) rfl (.int .i64 (wrap64 (c + 1)))
    replace Zl : Hid (Zx (w.heap.size) [.int .i64 f0, .bool f1, .slice (some ⟨g2, 0, none⟩) n2 k2, .int .i64 f3, .slice B4 n4 k4, .int .i64 f5, .slice B6 n6 k6] (w3.setCell ⟨g2, i * 3 + 2, none⟩ (.int .i64 (wrap64 (c + 1))))) := Lib.hid (Zl.out.touch hT (by have h1 := HB.out.size; omega))
    replace Zr : Hid (Zx (w.heap.size + 1) [.int .i64 0, .bool false, .slice none 0 0, .int .i64 0, .slice none 0 0, .int .i64 0, .slice none 0 0] (w3.setCell ⟨g2, i * 3 + 2, none⟩ (.int .i64 (wrap64 (c + 1))))) := Lib.hid (Zr.out.touch hT (by have h1 := HB.out.size; omega))
    replace G4 : Hid (Grow 177 2 (w.heap.size + 1 + 1) (w3.setCell ⟨g2, i * 3 + 2, none⟩ (.int .i64 (wrap64 (c + 1)))) B4 n4 k4 L4 (fun _ => False)) := Lib.hid (G4.out.touch hT (fun a e h => (fun x => P24.out _ a rfl e x.symm) h) (fun _ h => h.elim))
    replace G6 : Hid (Grow 177 2 (w.heap.size + 1 + 1) (w3.setCell ⟨g2, i * 3 + 2, none⟩ (.int .i64 (wrap64 (c + 1)))) B6 n6 k6 L6 (fun _ => False)) := Lib.hid (G6.out.touch hT (fun a e h => (fun x => P26.out _ a rfl e x.symm) h) (fun _ h => h.elim))
    replace G2 : Hid (Grow 174 3 (w.heap.size + 1 + 1) (w3.setCell ⟨g2, i * 3 + 2, none⟩ (.int .i64 (wrap64 (c + 1)))) (some ⟨g2, 0, none⟩) n2 k2 ((L2).set i (Dat.r [.i a, .i b, .i (wrap64 (c + 1))])) (fun _ => False)) := Lib.hid (G2.out.set1 (fun y hy => (x3_of (HT2.out y hy)).ic) (X3.ic ⟨_, _, _, rfl⟩) HD.out (by omega) rfl)
    replace HB : Hid (Below w.heap.size w (w3.setCell ⟨g2, i * 3 + 2, none⟩ (.int .i64 (wrap64 (c + 1))))) := Lib.hid (HB.out.trans (hT.below (fun b h => by rw [h]; omega) HB.out.size))
    clear hT
    clear zl0 zl1 zl2 zl3 zl4 zl5 zl6 fl
    clear zr0 zr1 zr2 zr3 zr4 zr5 zr6 fr
    clear r0 r1 r2 fg2
    have hI3 : Hid (∀ y ∈ (L2.set i (Dat.r [.i a, .i b, .i (wrap64 (c + 1))])), Ic 3 y) := Lib.hid (fun y hy => (mem_set_or hy).elim (fun h => by rw [h]; exact X3.ic ⟨_, _, _, rfl⟩) (fun h => (x3_of (HT2.out y h)).ic))
    have hd3 : Hid ((L2.set i (Dat.r [.i a, .i b, .i (wrap64 (c + 1))]))[i]? = some (Dat.r [.i a, .i b, .i (wrap64 (c + 1))])) := Lib.hid (by rw [List.getElem?_set_self (by have := HC2.out; omega)])
    have hsw4 : w3.heap.size ≤ (w3.setCell ⟨g2, i * 3 + 2, none⟩ (.int .i64 (wrap64 (c + 1)))).heap.size := by (first | (simp; done) | (simp only [World.size_alloc, World.size_setCell]; omega))
    generalize (w3.setCell ⟨g2, i * 3 + 2, none⟩ (.int .i64 (wrap64 (c + 1)))) = w4 at *
    obtain ⟨zl0, zl1, zl2, zl3, zl4, zl5, zl6, fl⟩ := Zl.out.c7
    obtain ⟨zr0, zr1, zr2, zr3, zr4, zr5, zr6, fr⟩ := Zr.out.c7
    obtain ⟨hgcell, fg2, hglt⟩ := G2.out.elem1 hI3.out hd3.out
    have r0 : w4.cell? ⟨g2, i * 3, none⟩ = some (.int .i64 (a)) := hgcell 0 _ rfl
    have r1 : w4.cell? ⟨g2, i * 3 + 1, none⟩ = some (.int .i64 (b)) := hgcell 1 _ rfl
    have r2 : w4.cell? ⟨g2, i * 3 + 2, none⟩ = some (.int .i64 (wrap64 (c + 1))) := hgcell 2 _ rfl
    clear hgcell
    have E2 : Hid (n2 = (putL x (wrap64 (f3 + 1)) L2).length) := Lib.hid (by rw [HP.out, List.length_set, HC2.out])
    go_region_law (fail)
    all_goals (
      go_wp2_with fail
      refine bodyPost_ret (v := .tuple #[.agg #[.int .i64 f0, .bool f1, .slice (some ⟨g2, 0, none⟩) n2 k2, .int .i64 f3, .slice B4 n4 k4, .int .i64 f5, .slice B6 n6 k6], .int .i64 a]) ?hres rfl ?hpost
      case hres =>
        refine results_box2 rfl _ _ (w.heap.size + 1) [.int .i64 f0, .bool f1, .slice (some ⟨g2, 0, none⟩) n2 k2, .int .i64 f3, .slice B4 n4 k4, .int .i64 f5, .slice B6 n6 k6] (.int .i64 a) _ rfl rfl ?_ Try.underlying97 rfl (by kernel_rfl)
        refine Zx.box ?_
        repeat (first | with_reducible exact Zr.out | with_reducible refine Zx.drewB ?_ | with_reducible apply Zx.put7)
      case hpost =>
        suffices h9 : ∀ w' : World, Touch (fun b => b = w.heap.size + 1) w4 w' → GivesLI f0 f1 (putL x (wrap64 (f3 + 1)) L2) (putL x (wrap64 (f3 + 1)) L2).length (putN x f3 L2) L4 n4 f5 L6 n6 (putP x (wrap64 (f3 + 1)) L2) w (.returned (.tuple #[.agg #[.int .i64 f0, .bool f1, .slice (some ⟨g2, 0, none⟩) n2 k2, .int .i64 f3, .slice B4 n4 k4, .int .i64 f5, .slice B6 n6 k6], .int .i64 a])) w' from h9 _ (by repeat (first | with_reducible exact Touch.refl _ _ | with_reducible refine Touch.drew ?_ | with_reducible refine Touch.put7 ?_ (Eq.refl _)))
        intro w' hT9
        obtain ⟨hL9, hB9⟩ := Link3.fin (W := w) (g := w.heap.size + 1) G2.out G4.out G6.out P24.out P26.out P46.out hT9 HB.out (by omega) (by omega)
        exact GivesLI.of ⟨_, _, _, _, _, _, rfl, hL9, hB9⟩ HP.out.symm E2.out HN.out.symm HV.out.symm)
end Go.Proofs.Ytmeacgpebpfpbaa
