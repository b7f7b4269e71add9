/- Chapter 10: the reference's PutExport. -/
import Derived.Test.YtmeacgpebpfpbaaLnkX
import Derived.StillTailTactics
import Derived.Test.YtmeacgpebpfpbaaMzLnkC
import Derived.Deep.RegionHeld3
import Derived.Deep.RegionLaw
import Derived.Deep.Cut
import Derived.LoopTactic
import Derived.Lib.Hide
import Derived.Deep.QuietTactic
import Derived.BigQuiet
import Derived.Deep.RegionWith
import Derived.Handy
namespace Go.Proofs.Ytmeacgpebpfpbaa
open Go.RowKit
set_option linter.unusedVariables false
set_option linter.unusedSimpArgs false
set_option maxRecDepth 100000 in
set_option maxHeartbeats 16000000 in
theorem specPutE (f0 : Int) (f1 : Bool) (L2 : List Dat) (A2 : Option Addr) (n2 c2 : Nat) (f3 : Int) (L4 : List Dat) (A4 : Option Addr) (n4 c4 : Nat) (f5 : Int) (L6 : List Dat) (A6 : Option Addr) (n6 c6 : Nat) (x : Int) (w : World) (hl2 : Lies w (.l L2) [.slice A2 n2 c2]) (ht2 : ∀ x ∈ L2, Has tyExport x) (hl4 : Lies w (.l L4) [.slice A4 n4 c4]) (ht4 : ∀ x ∈ L4, Has tyQuestion x) (hl6 : Lies w (.l L6) [.slice A6 n6 c6]) (ht6 : ∀ x ∈ L6, Has tyQuestion x) (hn2 : n2 ≤ 1099511627776) (hn4 : n4 ≤ 1099511627776) (hn6 : n6 ≤ 1099511627776) :
    Calls Try.prog 70 #[.agg #[.int .i64 f0, .bool f1, .slice A2 n2 c2, .int .i64 f3, .slice A4 n4 c4, .int .i64 f5, .slice A6 n6 c6], .int .i64 x] w (GivesLI f0 f1 (putL x (wrap64 (f3 + 1)) L2) (putL x (wrap64 (f3 + 1)) L2).length (putN x f3 L2) L4 n4 f5 L6 n6 (putP x (wrap64 (f3 + 1)) L2) w) := by
  have HC2 := Lib.hid hl2.count
  have HL2 := Lib.hid hl2
  have HT2 := Lib.hid ht2
  have HL4 := Lib.hid hl4
  have HT4 := Lib.hid ht4
  have HL6 := Lib.hid hl6
  have HT6 := Lib.hid ht6
  clear hl2 hl4 hl6 ht2 ht4 ht6
  obtain ⟨i0, hi, hz0, hz1, hz2⟩ := info_parts infoExport
  obtain ⟨i1, hj, hy0, hy1, hy2⟩ := info_parts infoQuestion
  have HB : Hid (Below w.heap.size w w) := Lib.hid (Below.refl _ _)
  have Zl : Hid (Zx (w.heap.size) [.int .i64 f0, .bool f1, .slice A2 n2 c2, .int .i64 f3, .slice A4 n4 c4, .int .i64 f5, .slice A6 n6 c6] (w.alloc (.cells #[.int .i64 f0, .bool f1, .slice A2 n2 c2, .int .i64 f3, .slice A4 n4 c4, .int .i64 f5, .slice A6 n6 c6] 97))) := Lib.hid (Zx.new _ _ _)
  replace HB : Hid (Below w.heap.size w (w.alloc (.cells #[.int .i64 f0, .bool f1, .slice A2 n2 c2, .int .i64 f3, .slice A4 n4 c4, .int .i64 f5, .slice A6 n6 c6] 97))) := Lib.hid (HB.out.alloc HB.out.size _)
  replace Zl : Hid (Zx (w.heap.size) [.int .i64 f0, .bool f1, .slice A2 n2 c2, .int .i64 f3, .slice A4 n4 c4, .int .i64 f5, .slice A6 n6 c6] ((w.alloc (.cells #[.int .i64 f0, .bool f1, .slice A2 n2 c2, .int .i64 f3, .slice A4 n4 c4, .int .i64 f5, .slice A6 n6 c6] 97)).alloc (.cells #[.int .i64 0, .bool false, .slice none 0 0, .int .i64 0, .slice none 0 0, .int .i64 0, .slice none 0 0] 97))) := Lib.hid (Zl.out.below ((Below.refl _ _).alloc (Nat.le_refl _) _))
  have Zr : Hid (Zx (w.heap.size + 1) [.int .i64 0, .bool false, .slice none 0 0, .int .i64 0, .slice none 0 0, .int .i64 0, .slice none 0 0] ((w.alloc (.cells #[.int .i64 f0, .bool f1, .slice A2 n2 c2, .int .i64 f3, .slice A4 n4 c4, .int .i64 f5, .slice A6 n6 c6] 97)).alloc (.cells #[.int .i64 0, .bool false, .slice none 0 0, .int .i64 0, .slice none 0 0, .int .i64 0, .slice none 0 0] 97))) := Lib.hid (by have h1 := Zx.new (w.alloc (.cells #[.int .i64 f0, .bool f1, .slice A2 n2 c2, .int .i64 f3, .slice A4 n4 c4, .int .i64 f5, .slice A6 n6 c6] 97)) #[.int .i64 0, .bool false, .slice none 0 0, .int .i64 0, .slice none 0 0, .int .i64 0, .slice none 0 0] 97; (try simp only [World.size_alloc, World.size_setCell] at h1); exact h1)
  replace HB : Hid (Below w.heap.size w ((w.alloc (.cells #[.int .i64 f0, .bool f1, .slice A2 n2 c2, .int .i64 f3, .slice A4 n4 c4, .int .i64 f5, .slice A6 n6 c6] 97)).alloc (.cells #[.int .i64 0, .bool false, .slice none 0 0, .int .i64 0, .slice none 0 0, .int .i64 0, .slice none 0 0] 97))) := Lib.hid (HB.out.alloc HB.out.size _)
  go_enter Try.func70, Try.ntmps70
  go_wp2_with fail
  refine (specCopy f0 f1 L2 A2 n2 c2 f3 L4 A4 n4 c4 f5 L6 A6 n6 c6 _ (HL2.out.below HB.out) HT2.out (HL4.out.below HB.out) HT4.out (HL6.out.below HB.out) HT6.out hn2 hn4 hn6).mono ?_
  rintro e w1 ⟨B2, k2, B4, k4, B6, k6, rfl, hK, hb⟩
  replace Zl : Hid (Zx (w.heap.size) [.int .i64 f0, .bool f1, .slice A2 n2 c2, .int .i64 f3, .slice A4 n4 c4, .int .i64 f5, .slice A6 n6 c6] w1) := Lib.hid (Zl.out.below hb)
  replace Zr : Hid (Zx (w.heap.size + 1) [.int .i64 0, .bool false, .slice none 0 0, .int .i64 0, .slice none 0 0, .int .i64 0, .slice none 0 0] w1) := Lib.hid (Zr.out.below hb)
  replace HB : Hid (Below w.heap.size w w1) := Lib.hid (HB.out.trans (hb.mono HB.out.size))
  have hsw1 : w.heap.size + 1 + 1 ≤ w1.heap.size := (by have h1 := hb.size; (try simp only [World.size_alloc, World.size_setCell] at h1); exact h1)
  have G2 : Hid (Grow 174 3 (w.heap.size + 1 + 1) w1 B2 n2 k2 L2 (fun _ => False)) := Lib.hid (by have h1 := hK.g2; (try simp only [World.size_alloc] at h1); exact h1)
  have G4 : Hid (Grow 177 2 (w.heap.size + 1 + 1) w1 B4 n4 k4 L4 (fun _ => False)) := Lib.hid (by have h1 := hK.g4; (try simp only [World.size_alloc] at h1); exact h1)
  have G6 : Hid (Grow 177 2 (w.heap.size + 1 + 1) w1 B6 n6 k6 L6 (fun _ => False)) := Lib.hid (by have h1 := hK.g6; (try simp only [World.size_alloc] at h1); exact h1)
  have P24 := Lib.hid hK.p24
  have P26 := Lib.hid hK.p26
  have P46 := Lib.hid hK.p46
  clear hK hb
  have No2 : Hid (∀ a, B2 = some a → a.block ≠ w1.heap.size) := Lib.hid (fun a e => by have h1 := (G2.out.blkF a e).2; (try simp only [World.size_alloc, World.size_setCell] at h1); omega)
  have No4 : Hid (∀ a, B4 = some a → a.block ≠ w1.heap.size) := Lib.hid (fun a e => by have h1 := (G4.out.blkF a e).2; (try simp only [World.size_alloc, World.size_setCell] at h1); omega)
  have No6 : Hid (∀ a, B6 = some a → a.block ≠ w1.heap.size) := Lib.hid (fun a e => by have h1 := (G6.out.blkF a e).2; (try simp only [World.size_alloc, World.size_setCell] at h1); omega)
  obtain ⟨yl0, yl1, yl2, yl3, yl4, yl5, yl6, fyl⟩ := (Zl.out.below ((Below.refl _ _).alloc (Nat.le_refl _) (.cells #[.int .i64 f0, .bool f1, .slice B2 n2 k2, .int .i64 f3, .slice B4 n4 k4, .int .i64 f5, .slice B6 n6 k6] 97))).c7
  obtain ⟨yr0, yr1, yr2, yr3, yr4, yr5, yr6, fyr⟩ := (Zr.out.below ((Below.refl _ _).alloc (Nat.le_refl _) (.cells #[.int .i64 f0, .bool f1, .slice B2 n2 k2, .int .i64 f3, .slice B4 n4 k4, .int .i64 f5, .slice B6 n6 k6] 97))).c7
  replace Zl : Hid (Zx (w.heap.size) [.int .i64 f0, .bool f1, .slice A2 n2 c2, .int .i64 f3, .slice A4 n4 c4, .int .i64 f5, .slice A6 n6 c6] (w1.alloc (.cells #[.int .i64 f0, .bool f1, .slice B2 n2 k2, .int .i64 f3, .slice B4 n4 k4, .int .i64 f5, .slice B6 n6 k6] 97))) := Lib.hid (Zl.out.below ((Below.refl _ _).alloc (Nat.le_refl _) _))
  replace Zr : Hid (Zx (w.heap.size + 1) [.int .i64 0, .bool false, .slice none 0 0, .int .i64 0, .slice none 0 0, .int .i64 0, .slice none 0 0] (w1.alloc (.cells #[.int .i64 f0, .bool f1, .slice B2 n2 k2, .int .i64 f3, .slice B4 n4 k4, .int .i64 f5, .slice B6 n6 k6] 97))) := Lib.hid (Zr.out.below ((Below.refl _ _).alloc (Nat.le_refl _) _))
  replace G2 : Hid (Grow 174 3 (w.heap.size + 1 + 1) (w1.alloc (.cells #[.int .i64 f0, .bool f1, .slice B2 n2 k2, .int .i64 f3, .slice B4 n4 k4, .int .i64 f5, .slice B6 n6 k6] 97)) B2 n2 k2 L2 (fun _ => False)) := Lib.hid (G2.out.below ((Below.refl _ _).alloc (Nat.le_refl _) _))
  replace G4 : Hid (Grow 177 2 (w.heap.size + 1 + 1) (w1.alloc (.cells #[.int .i64 f0, .bool f1, .slice B2 n2 k2, .int .i64 f3, .slice B4 n4 k4, .int .i64 f5, .slice B6 n6 k6] 97)) B4 n4 k4 L4 (fun _ => False)) := Lib.hid (G4.out.below ((Below.refl _ _).alloc (Nat.le_refl _) _))
  replace G6 : Hid (Grow 177 2 (w.heap.size + 1 + 1) (w1.alloc (.cells #[.int .i64 f0, .bool f1, .slice B2 n2 k2, .int .i64 f3, .slice B4 n4 k4, .int .i64 f5, .slice B6 n6 k6] 97)) B6 n6 k6 L6 (fun _ => False)) := Lib.hid (G6.out.below ((Below.refl _ _).alloc (Nat.le_refl _) _))
  have Zo : Hid (Zx (w1.heap.size) [.int .i64 f0, .bool f1, .slice B2 n2 k2, .int .i64 f3, .slice B4 n4 k4, .int .i64 f5, .slice B6 n6 k6] (w1.alloc (.cells #[.int .i64 f0, .bool f1, .slice B2 n2 k2, .int .i64 f3, .slice B4 n4 k4, .int .i64 f5, .slice B6 n6 k6] 97))) := Lib.hid (Zx.new _ _ _)
  replace HB : Hid (Below w.heap.size w (w1.alloc (.cells #[.int .i64 f0, .bool f1, .slice B2 n2 k2, .int .i64 f3, .slice B4 n4 k4, .int .i64 f5, .slice B6 n6 k6] 97))) := Lib.hid (HB.out.alloc HB.out.size _)
  go_upto_region 2 with (fail)
  clear yl0 yl1 yl2 yl3 yl4 yl5 yl6 yr0 yr1 yr2 yr3 yr4 yr5 yr6 fyl fyr
  have hsw2 : w1.heap.size + 1 ≤ (w1.alloc (.cells #[.int .i64 f0, .bool f1, .slice B2 n2 k2, .int .i64 f3, .slice B4 n4 k4, .int .i64 f5, .slice B6 n6 k6] 97)).heap.size := by (first | (simp; done) | (simp only [World.size_alloc, World.size_setCell]; omega))
  generalize (w1.alloc (.cells #[.int .i64 f0, .bool f1, .slice B2 n2 k2, .int .i64 f3, .slice B4 n4 k4, .int .i64 f5, .slice B6 n6 k6] 97)) = w2 at *
  obtain ⟨zl0, zl1, zl2, zl3, zl4, zl5, zl6, fl⟩ := Zl.out.c7
  obtain ⟨zr0, zr1, zr2, zr3, zr4, zr5, zr6, fr⟩ := Zr.out.c7
  obtain ⟨zo0, zo1, zo2, zo3, zo4, zo5, zo6, fo⟩ := Zo.out.c7
  have HN0 := Lib.hid HC2.out
  go_wp2_with fail
  go_loopw [7] (fun iv wr => ∃ i : Nat, i ≤ n2 ∧ iv = .int .i64 i ∧ (∀ (j : Nat) (e : Dat), j < i → L2[j]? = some e → isF 1 x e = false) ∧ Below w2.heap.size w2 wr) (fun iv _ => n2 - (intOf iv).toNat)
  case atStart => exact ⟨0, Nat.zero_le _, rfl, fun j e hj => by omega, Below.refl _ _⟩
  case round =>
    obtain ⟨i, hin, rfl, hno, hb⟩ := hrel
    have HNO := Lib.hid hno
    have HBW := Lib.hid hb
    clear hno
    clear zl0 zl1 zl2 zl3 zl4 zl5 zl6 fl
    clear zr0 zr1 zr2 zr3 zr4 zr5 zr6 fr
    clear zo0 zo1 zo2 zo3 zo4 zo5 zo6 fo
    replace Zl : Hid (Zx (w.heap.size) [.int .i64 f0, .bool f1, .slice A2 n2 c2, .int .i64 f3, .slice A4 n4 c4, .int .i64 f5, .slice A6 n6 c6] wr) := Lib.hid (Zl.out.below hb)
    replace Zr : Hid (Zx (w.heap.size + 1) [.int .i64 0, .bool false, .slice none 0 0, .int .i64 0, .slice none 0 0, .int .i64 0, .slice none 0 0] wr) := Lib.hid (Zr.out.below hb)
    replace Zo : Hid (Zx (w1.heap.size) [.int .i64 f0, .bool f1, .slice B2 n2 k2, .int .i64 f3, .slice B4 n4 k4, .int .i64 f5, .slice B6 n6 k6] wr) := Lib.hid (Zo.out.below hb)
    replace G2 : Hid (Grow 174 3 (w.heap.size + 1 + 1) wr B2 n2 k2 L2 (fun _ => False)) := Lib.hid (G2.out.below hb)
    replace G4 : Hid (Grow 177 2 (w.heap.size + 1 + 1) wr B4 n4 k4 L4 (fun _ => False)) := Lib.hid (G4.out.below hb)
    replace G6 : Hid (Grow 177 2 (w.heap.size + 1 + 1) wr B6 n6 k6 L6 (fun _ => False)) := Lib.hid (G6.out.below hb)
    replace HB : Hid (Below w.heap.size w wr) := Lib.hid (HB.out.trans (hb.mono HB.out.size))
    have hswr : w2.heap.size ≤ wr.heap.size := (by have h1 := hb.size; (try simp only [World.size_alloc, World.size_setCell] at h1); exact h1)
    clear hb
    by_cases hlt : i < n2
    · skip
      obtain ⟨b, off, d, xs, rfl, hbw, hzi, hlie, hlen, hcell⟩ := HL2.out.elem (fun x hx => (HT2.out x hx).width) hlt
      obtain ⟨p0, p1, p2, hd, rfl⟩ := invExport (HT2.out d (List.mem_of_getElem? hzi)) hlie
      have s0 : wr.cell? ⟨b, off + i * 3, none⟩ = some (.int .i64 p0) := (HB.out.cell (p := ⟨b, off + i * 3, none⟩) hbw).trans (hcell 0 _ rfl)
      have s1 : wr.cell? ⟨b, off + i * 3 + 1, none⟩ = some (.int .i64 p1) := (HB.out.cell (p := ⟨b, off + i * 3 + 1, none⟩) hbw).trans (hcell 1 _ rfl)
      have s2 : wr.cell? ⟨b, off + i * 3 + 2, none⟩ = some (.int .i64 p2) := (HB.out.cell (p := ⟨b, off + i * 3 + 2, none⟩) hbw).trans (hcell 2 _ rfl)
      have HD : Hid (L2[i]? = some (Dat.r [.i p0, .i p1, .i p2])) := Lib.hid (by rw [← hd]; exact hzi)
      clear hzi hlie hcell hd hlen
      by_cases e : p1 = x
      · skip
        have HX := Lib.hid e
        have hb0 : (p1 == x) = true := by simpa using e
        clear e
        have HP := Lib.hid (putL_some (nx := wrap64 (f3 + 1)) HNO.out HD.out (isF_t (k := 1) (d := .r [.i p0, .i p1, .i p2]) HX.out))
        have HV : Hid (putP x (wrap64 (f3 + 1)) L2 = p0) := Lib.hid (look_at HNO.out HD.out (isF_t (k := 1) (d := .r [.i p0, .i p1, .i p2]) HX.out))
        have HN : Hid (putN x f3 L2 = f3) := Lib.hid (putN_some (i := i) (idx_at HNO.out HD.out (isF_t (k := 1) (d := .r [.i p0, .i p1, .i p2]) HX.out)).symm)
        clear HX
        obtain ⟨g2, hgA, hglo2, hglt2, hgc2, hgcell, fg2⟩ := G2.out.elem (fun y hy => (x3_of (HT2.out y hy)).ic) HD.out
        subst hgA
        have r0 : wr.cell? ⟨g2, i * 3, none⟩ = some (.int .i64 (p0)) := hgcell 0 _ rfl
        have r1 : wr.cell? ⟨g2, i * 3 + 1, none⟩ = some (.int .i64 (p1)) := hgcell 1 _ rfl
        have r2 : wr.cell? ⟨g2, i * 3 + 2, none⟩ = some (.int .i64 (p2)) := hgcell 2 _ rfl
        clear hgcell
        obtain ⟨zl0, zl1, zl2, zl3, zl4, zl5, zl6, fl⟩ := Zl.out.c7
        obtain ⟨zr0, zr1, zr2, zr3, zr4, zr5, zr6, fr⟩ := Zr.out.c7
        obtain ⟨zo0, zo1, zo2, zo3, zo4, zo5, zo6, fo⟩ := Zo.out.c7
        go_upto_region 6 with (fail)
        go_still_tail 12, (by kernel_rfl)
        change wpList _ _ _ _ _ (wr.drew)
        clear r0 r1 r2 fg2 zl0 zl1 zl2 zl3 zl4 zl5 zl6 zr0 zr1 zr2 zr3 zr4 zr5 zr6 zo0 zo1 zo2 zo3 zo4 zo5 zo6 fl fr fo
        have s0' : wr.drew.cell? ⟨b, off + i * 3, none⟩ = some (.int .i64 p0) := s0
        clear s0 s1 s2
        have hb := (Below.refl wr.heap.size wr).drew
        replace Zl : Hid (Zx (w.heap.size) [.int .i64 f0, .bool f1, .slice (some ⟨b, off, none⟩) n2 c2, .int .i64 f3, .slice A4 n4 c4, .int .i64 f5, .slice A6 n6 c6] wr.drew) := Lib.hid (Zl.out.below hb)
        replace Zr : Hid (Zx (w.heap.size + 1) [.int .i64 0, .bool false, .slice none 0 0, .int .i64 0, .slice none 0 0, .int .i64 0, .slice none 0 0] wr.drew) := Lib.hid (Zr.out.below hb)
        replace Zo : Hid (Zx (w1.heap.size) [.int .i64 f0, .bool f1, .slice (some ⟨g2, 0, none⟩) n2 k2, .int .i64 f3, .slice B4 n4 k4, .int .i64 f5, .slice B6 n6 k6] wr.drew) := Lib.hid (Zo.out.below hb)
        replace G2 : Hid (Grow 174 3 (w.heap.size + 1 + 1) wr.drew (some ⟨g2, 0, none⟩) n2 k2 L2 (fun _ => False)) := Lib.hid (G2.out.below hb)
        replace G4 : Hid (Grow 177 2 (w.heap.size + 1 + 1) wr.drew B4 n4 k4 L4 (fun _ => False)) := Lib.hid (G4.out.below hb)
        replace G6 : Hid (Grow 177 2 (w.heap.size + 1 + 1) wr.drew B6 n6 k6 L6 (fun _ => False)) := Lib.hid (G6.out.below hb)
        replace HB : Hid (Below w.heap.size w wr.drew) := Lib.hid (HB.out.trans (hb.mono HB.out.size))
        clear hb
        have hsw3 : wr.heap.size ≤ wr.drew.heap.size := Nat.le_refl _
        generalize wr.drew = w3 at *
        obtain ⟨hgcell, fg2, hglt⟩ := G2.out.elem1 (fun y hy => (x3_of (HT2.out y hy)).ic) HD.out
        clear hgcell
        have r2 : w3.cell? ⟨g2, i * 3 + 2, none⟩ = some (.int .i64 p2) := (G2.out.elem1 (fun y hy => (x3_of (HT2.out y hy)).ic) HD.out).1 2 _ rfl
        have hw : IntKind.i64.wrap (p2 + 1) = wrap64 (p2 + 1) := (by rw [IntKind.wrap_i64]; unfold wrap64; rfl)
        go_wp2_with fail
        clear r2 hw
        have hT : Touch (fun b => b = g2) w3 (w3.setCell ⟨g2, i * 3 + 2, none⟩ (.int .i64 (wrap64 (p2 + 1)))) := (Touch.refl (fun b => b = g2) w3).setCell (p := ⟨g2, i * 3 + 2, none⟩) rfl (.int .i64 (wrap64 (p2 + 1)))
        replace Zl : Hid (Zx (w.heap.size) [.int .i64 f0, .bool f1, .slice (some ⟨b, off, none⟩) n2 c2, .int .i64 f3, .slice A4 n4 c4, .int .i64 f5, .slice A6 n6 c6] (w3.setCell ⟨g2, i * 3 + 2, none⟩ (.int .i64 (wrap64 (p2 + 1))))) := Lib.hid (Zl.out.touch hT (by have h1 := HB.out.size; omega))
        replace Zr : Hid (Zx (w.heap.size + 1) [.int .i64 0, .bool false, .slice none 0 0, .int .i64 0, .slice none 0 0, .int .i64 0, .slice none 0 0] (w3.setCell ⟨g2, i * 3 + 2, none⟩ (.int .i64 (wrap64 (p2 + 1))))) := Lib.hid (Zr.out.touch hT (by have h1 := HB.out.size; omega))
        replace Zo : Hid (Zx (w1.heap.size) [.int .i64 f0, .bool f1, .slice (some ⟨g2, 0, none⟩) n2 k2, .int .i64 f3, .slice B4 n4 k4, .int .i64 f5, .slice B6 n6 k6] (w3.setCell ⟨g2, i * 3 + 2, none⟩ (.int .i64 (wrap64 (p2 + 1))))) := Lib.hid (Zo.out.touch hT (by exact fun h => No2.out _ rfl h.symm))
        replace G4 : Hid (Grow 177 2 (w.heap.size + 1 + 1) (w3.setCell ⟨g2, i * 3 + 2, none⟩ (.int .i64 (wrap64 (p2 + 1)))) B4 n4 k4 L4 (fun _ => False)) := Lib.hid (G4.out.touch hT (fun a e h => (fun x => P24.out _ a rfl e x.symm) h) (fun _ h => h.elim))
        replace G6 : Hid (Grow 177 2 (w.heap.size + 1 + 1) (w3.setCell ⟨g2, i * 3 + 2, none⟩ (.int .i64 (wrap64 (p2 + 1)))) B6 n6 k6 L6 (fun _ => False)) := Lib.hid (G6.out.touch hT (fun a e h => (fun x => P26.out _ a rfl e x.symm) h) (fun _ h => h.elim))
        replace G2 : Hid (Grow 174 3 (w.heap.size + 1 + 1) (w3.setCell ⟨g2, i * 3 + 2, none⟩ (.int .i64 (wrap64 (p2 + 1)))) (some ⟨g2, 0, none⟩) n2 k2 ((L2).set i (Dat.r [.i p0, .i p1, .i (wrap64 (p2 + 1))])) (fun _ => False)) := Lib.hid (G2.out.set1 (fun y hy => (x3_of (HT2.out y hy)).ic) (X3.ic ⟨_, _, _, rfl⟩) HD.out (by omega) rfl)
        replace HB : Hid (Below w.heap.size w (w3.setCell ⟨g2, i * 3 + 2, none⟩ (.int .i64 (wrap64 (p2 + 1))))) := Lib.hid (HB.out.trans (hT.below (fun b h => by rw [h]; omega) HB.out.size))
        clear hT
        skip
        have s0 : (w3.setCell ⟨g2, i * 3 + 2, none⟩ (.int .i64 (wrap64 (p2 + 1)))).cell? ⟨b, off + i * 3, none⟩ = some (.int .i64 p0) := (World.cell?_setCell_far _ _ _ _ (by show g2 ≠ b; have h1 := hglo2; omega)).trans s0'
        clear s0'
        clear fg2
        have hI3 : Hid (∀ y ∈ (L2.set i (Dat.r [.i p0, .i p1, .i (wrap64 (p2 + 1))])), Ic 3 y) := Lib.hid (fun y hy => (mem_set_or hy).elim (fun h => by rw [h]; exact X3.ic ⟨_, _, _, rfl⟩) (fun h => (x3_of (HT2.out y h)).ic))
        have hd3 : Hid ((L2.set i (Dat.r [.i p0, .i p1, .i (wrap64 (p2 + 1))]))[i]? = some (Dat.r [.i p0, .i p1, .i (wrap64 (p2 + 1))])) := Lib.hid (by rw [List.getElem?_set_self (by have := HN0.out; omega)])
        have hsw4 : w3.heap.size ≤ (w3.setCell ⟨g2, i * 3 + 2, none⟩ (.int .i64 (wrap64 (p2 + 1)))).heap.size := by (first | (simp; done) | (simp only [World.size_alloc, World.size_setCell]; omega))
        generalize (w3.setCell ⟨g2, i * 3 + 2, none⟩ (.int .i64 (wrap64 (p2 + 1)))) = w4 at *
        obtain ⟨zl0, zl1, zl2, zl3, zl4, zl5, zl6, fl⟩ := Zl.out.c7
        obtain ⟨zr0, zr1, zr2, zr3, zr4, zr5, zr6, fr⟩ := Zr.out.c7
        obtain ⟨zo0, zo1, zo2, zo3, zo4, zo5, zo6, fo⟩ := Zo.out.c7
        obtain ⟨hgcell, fg2, hglt⟩ := G2.out.elem1 hI3.out hd3.out
        have r0 : w4.cell? ⟨g2, i * 3, none⟩ = some (.int .i64 (p0)) := hgcell 0 _ rfl
        have r1 : w4.cell? ⟨g2, i * 3 + 1, none⟩ = some (.int .i64 (p1)) := hgcell 1 _ rfl
        have r2 : w4.cell? ⟨g2, i * 3 + 2, none⟩ = some (.int .i64 (wrap64 (p2 + 1))) := hgcell 2 _ rfl
        clear hgcell
        clear r0 r1 r2
        go_region_law (fail)
        all_goals (
          have E2 : Hid (n2 = (putL x (wrap64 (f3 + 1)) L2).length) := Lib.hid (by rw [HP.out, List.length_set, HN0.out])
          go_wp2_with fail
          refine bodyPost_ret (v := .tuple #[.agg #[.int .i64 f0, .bool f1, .slice (some ⟨g2, 0, none⟩) n2 k2, .int .i64 f3, .slice B4 n4 k4, .int .i64 f5, .slice B6 n6 k6], .int .i64 p0]) ?hres rfl ?hpost
          case hres =>
            refine results_box2 rfl _ _ (w.heap.size + 1) [.int .i64 f0, .bool f1, .slice (some ⟨g2, 0, none⟩) n2 k2, .int .i64 f3, .slice B4 n4 k4, .int .i64 f5, .slice B6 n6 k6] (.int .i64 p0) _ rfl rfl ?_ Try.underlying97 rfl (by kernel_rfl)
            refine Zx.box ?_
            repeat (first | with_reducible exact Zr.out | with_reducible refine Zx.drewB ?_ | with_reducible apply Zx.put7)
          case hpost =>
            suffices h9 : ∀ w' : World, Touch (fun b => b = w.heap.size + 1) w4 w' → GivesLI f0 f1 (putL x (wrap64 (f3 + 1)) L2) (putL x (wrap64 (f3 + 1)) L2).length (putN x f3 L2) L4 n4 f5 L6 n6 (putP x (wrap64 (f3 + 1)) L2) w (.returned (.tuple #[.agg #[.int .i64 f0, .bool f1, .slice (some ⟨g2, 0, none⟩) n2 k2, .int .i64 f3, .slice B4 n4 k4, .int .i64 f5, .slice B6 n6 k6], .int .i64 p0])) w' from h9 _ (by repeat (first | with_reducible exact Touch.refl _ _ | with_reducible refine Touch.drew ?_ | with_reducible refine Touch.put7 ?_ (Eq.refl _)))
            intro w' hT9
            obtain ⟨hL9, hB9⟩ := Link3.fin (W := w) (g := w.heap.size + 1) G2.out G4.out G6.out P24.out P26.out P46.out hT9 HB.out (by omega) (by omega)
            exact GivesLI.of ⟨_, _, _, _, _, _, rfl, hL9, hB9⟩ HP.out.symm E2.out HN.out.symm HV.out.symm)
      · skip
        obtain ⟨zl0, zl1, zl2, zl3, zl4, zl5, zl6, fl⟩ := Zl.out.c7
        have hb0 : (p1 == x) = false := by simpa using e
        have HNX := Lib.hid (no_next HNO.out HD.out (isF_f (k := 1) (d := .r [.i p0, .i p1, .i p2]) e))
        clear e
        go_wp2_with fail
        go_roundw
        case rel => exact ⟨i + 1, by omega, by go_num, HNX.out, HBW.out⟩
        case measure => (simp [intOf]; try omega)
    · skip
      obtain rfl : n2 = i := by omega
      have hnone : ∀ d ∈ L2, isF 1 x d = false := fun d hd => by obtain ⟨j, hj⟩ := List.mem_iff_getElem?.1 hd; exact HNO.out j d (by have h1 := HN0.out; have h2 := (List.getElem?_eq_some_iff.1 hj).1; omega) hj
      have HP := Lib.hid (putL_none (nx := wrap64 (f3 + 1)) hnone)
      have HV : Hid (putP x (wrap64 (f3 + 1)) L2 = wrap64 (f3 + 1)) := Lib.hid (look_none hnone)
      have HN := Lib.hid (putN_none (f := f3) (idx_none (fun j e hje => hnone e (List.mem_of_getElem? hje))).symm)
      clear hnone
      obtain ⟨zl0, zl1, zl2, zl3, zl4, zl5, zl6, fl⟩ := Zl.out.c7
      obtain ⟨zr0, zr1, zr2, zr3, zr4, zr5, zr6, fr⟩ := Zr.out.c7
      obtain ⟨zo0, zo1, zo2, zo3, zo4, zo5, zo6, fo⟩ := Zo.out.c7
      have hT : Touch (fun b => b = w1.heap.size) wr (wr.setCell ⟨w1.heap.size, 3, none⟩ (.int .i64 (wrap64 (f3 + 1)))) := (Touch.refl (fun b => b = w1.heap.size) wr).setCell (p := ⟨w1.heap.size, 3, none⟩) rfl (.int .i64 (wrap64 (f3 + 1)))
      replace Zl : Hid (Zx (w.heap.size) [.int .i64 f0, .bool f1, .slice A2 n2 c2, .int .i64 f3, .slice A4 n4 c4, .int .i64 f5, .slice A6 n6 c6] (wr.setCell ⟨w1.heap.size, 3, none⟩ (.int .i64 (wrap64 (f3 + 1))))) := Lib.hid (Zl.out.touch hT (by have h1 := HB.out.size; omega))
      replace Zr : Hid (Zx (w.heap.size + 1) [.int .i64 0, .bool false, .slice none 0 0, .int .i64 0, .slice none 0 0, .int .i64 0, .slice none 0 0] (wr.setCell ⟨w1.heap.size, 3, none⟩ (.int .i64 (wrap64 (f3 + 1))))) := Lib.hid (Zr.out.touch hT (by have h1 := HB.out.size; omega))
      replace G2 : Hid (Grow 174 3 (w.heap.size + 1 + 1) (wr.setCell ⟨w1.heap.size, 3, none⟩ (.int .i64 (wrap64 (f3 + 1)))) B2 n2 k2 L2 (fun _ => False)) := Lib.hid (G2.out.touch hT (fun a e h => No2.out a e h) (fun _ h => h.elim))
      replace G4 : Hid (Grow 177 2 (w.heap.size + 1 + 1) (wr.setCell ⟨w1.heap.size, 3, none⟩ (.int .i64 (wrap64 (f3 + 1)))) B4 n4 k4 L4 (fun _ => False)) := Lib.hid (G4.out.touch hT (fun a e h => No4.out a e h) (fun _ h => h.elim))
      replace G6 : Hid (Grow 177 2 (w.heap.size + 1 + 1) (wr.setCell ⟨w1.heap.size, 3, none⟩ (.int .i64 (wrap64 (f3 + 1)))) B6 n6 k6 L6 (fun _ => False)) := Lib.hid (G6.out.touch hT (fun a e h => No6.out a e h) (fun _ h => h.elim))
      replace Zo : Hid (Zx (w1.heap.size) [.int .i64 f0, .bool f1, .slice B2 n2 k2, .int .i64 (wrap64 (f3 + 1)), .slice B4 n4 k4, .int .i64 f5, .slice B6 n6 k6] (wr.setCell ⟨w1.heap.size, 3, none⟩ (.int .i64 (wrap64 (f3 + 1))))) := Lib.hid (Zo.out.put 3 (.int .i64 (wrap64 (f3 + 1))))
      replace HB : Hid (Below w.heap.size w (wr.setCell ⟨w1.heap.size, 3, none⟩ (.int .i64 (wrap64 (f3 + 1))))) := Lib.hid (HB.out.trans (hT.below (fun b h => by rw [h]; omega) HB.out.size))
      clear hT
      go_upto_region 9 with (fail)
      clear zl0 zl1 zl2 zl3 zl4 zl5 zl6 fl
      clear zr0 zr1 zr2 zr3 zr4 zr5 zr6 fr
      clear zo0 zo1 zo2 zo3 zo4 zo5 zo6 fo
      have hsw3 : wr.heap.size ≤ (wr.setCell ⟨w1.heap.size, 3, none⟩ (.int .i64 (wrap64 (f3 + 1)))).heap.size := by (first | (simp; done) | (simp only [World.size_alloc, World.size_setCell]; omega))
      generalize (wr.setCell ⟨w1.heap.size, 3, none⟩ (.int .i64 (wrap64 (f3 + 1)))) = w3 at *
      obtain ⟨zl0, zl1, zl2, zl3, zl4, zl5, zl6, fl⟩ := Zl.out.c7
      obtain ⟨zr0, zr1, zr2, zr3, zr4, zr5, zr6, fr⟩ := Zr.out.c7
      obtain ⟨zo0, zo1, zo2, zo3, zo4, zo5, zo6, fo⟩ := Zo.out.c7
      have SL : Hid (Src 3 (w3.alloc (.cells #[.int .i64 (wrap64 (f3 + 1)), .int .i64 (x), .int .i64 (1)] 174)) (some ⟨w3.heap.size, 0, none⟩) 1 [Dat.r [.i (wrap64 (f3 + 1)), .i x, .i 1]] (fun _ => False)) := Lib.hid (by have h1 := Src.litK (w := w3) (E := 174) (C := #[.int .i64 (wrap64 (f3 + 1)), .int .i64 (x), .int .i64 (1)]) (d := Dat.r [.i (wrap64 (f3 + 1)), .i x, .i 1]) (k := 3) (X3.ic ⟨_, _, _, rfl⟩) rfl; (try simp only [World.size_alloc, World.size_setCell] at h1); exact h1)
      have GA : Hid (Grow 174 3 (w.heap.size + 1 + 1) (w3.alloc (.cells #[.int .i64 (wrap64 (f3 + 1)), .int .i64 (x), .int .i64 (1)] 174)) B2 n2 k2 L2 (fun _ => False)) := Lib.hid (G2.out.below ((Below.refl _ _).alloc (Nat.le_refl _) _))
      go_upto_region 10 with (first
        | (refine wpList_append_dat _ rfl _ _ 94 rfl 3 (by omega) 174 i0 _ 24 Try.underlying94 hi hz0 hz1 rfl hz2 (w.heap.size + 1 + 1) B2 n2 k2 L2 (fun _ => False) rfl GA.out (some ⟨w3.heap.size, 0, none⟩) 1 1 [Dat.r [.i (wrap64 (f3 + 1)), .i x, .i 1]] (fun _ => False) rfl SL.out (fun b h => h.elim) (fun a e h => h) (by unfold maxLen; omega) (by omega) (by first | (simp; done) | (simp only [World.size_alloc, World.size_setCell]; omega)) ?_; intro C2 j2 w4 hG hT9 hA; clear GA SL; have hqo : Hid (w1.heap.size < w3.heap.size) := Lib.hid (by have h1 := Zo.out.1.1; (try simp only [World.size_alloc, World.size_setCell] at h1); omega); clear zl0 zl1 zl2 zl3 zl4 zl5 zl6 fl; clear zr0 zr1 zr2 zr3 zr4 zr5 zr6 fr; clear zo0 zo1 zo2 zo3 zo4 zo5 zo6 fo; have hT : Touch (fun b => ∃ a, B2 = some a ∧ b = a.block) w3 w4 := (Touch.of_below ((Below.refl _ _).alloc (Nat.le_refl _) _)).trans hT9; clear hT9; have hlt : ∀ a, B2 = some a → w.heap.size + 1 + 1 ≤ a.block := fun a e => (G2.out.blkF a e).1; replace hA : ∀ a, C2 = some a → B2 = some a ∨ w3.heap.size ≤ a.block := (fun a e => (hA a e).imp id (fun h => by have h1 := h; (try simp only [World.size_alloc, World.size_setCell] at h1); omega)); have Q24 : Apart B4 B2 := P24.out.symm; have hq24 : ∀ a, B4 = some a → a.block < w3.heap.size := (fun a e => by have h1 := (G4.out.blkF a e).2; (try simp only [World.size_alloc, World.size_setCell] at h1); omega); replace P24 := Lib.hid ((Q24.grown hA hq24).symm); have Q26 : Apart B6 B2 := P26.out.symm; have hq26 : ∀ a, B6 = some a → a.block < w3.heap.size := (fun a e => by have h1 := (G6.out.blkF a e).2; (try simp only [World.size_alloc, World.size_setCell] at h1); omega); replace P26 := Lib.hid ((Q26.grown hA hq26).symm); replace Zl : Hid (Zx (w.heap.size) [.int .i64 f0, .bool f1, .slice A2 n2 c2, .int .i64 f3, .slice A4 n4 c4, .int .i64 f5, .slice A6 n6 c6] w4) := Lib.hid (Zl.out.touch hT (fun ⟨a, e, hx⟩ => by have h1 := hlt a e; have h2 := HB.out.size; omega)); replace Zr : Hid (Zx (w.heap.size + 1) [.int .i64 0, .bool false, .slice none 0 0, .int .i64 0, .slice none 0 0, .int .i64 0, .slice none 0 0] w4) := Lib.hid (Zr.out.touch hT (fun ⟨a, e, hx⟩ => by have h1 := hlt a e; have h2 := HB.out.size; omega)); replace Zo : Hid (Zx (w1.heap.size) [.int .i64 f0, .bool f1, .slice B2 n2 k2, .int .i64 (wrap64 (f3 + 1)), .slice B4 n4 k4, .int .i64 f5, .slice B6 n6 k6] w4) := Lib.hid (Zo.out.touch hT (fun ⟨a, e, hx⟩ => No2.out a e hx.symm)); have hzo := Zo.out.1.1; replace No2 : Hid (∀ a, C2 = some a → a.block ≠ w1.heap.size) := Lib.hid (fun a e => (hA a e).elim (fun h => No2.out a h) (fun h => by have h9 := hqo.out; omega)); clear hzo; replace G4 : Hid (Grow 177 2 (w.heap.size + 1 + 1) w4 B4 n4 k4 L4 (fun _ => False)) := Lib.hid (G4.out.apart_touch Q24 hT); clear Q24 hq24; replace G6 : Hid (Grow 177 2 (w.heap.size + 1 + 1) w4 B6 n6 k6 L6 (fun _ => False)) := Lib.hid (G6.out.apart_touch Q26 hT); clear Q26 hq26; replace G2 : Hid (Grow 174 3 (w.heap.size + 1 + 1) w4 C2 (n2 + 1) j2 (L2 ++ [Dat.r [.i (wrap64 (f3 + 1)), .i x, .i 1]]) (fun _ => False)) := Lib.hid (hG.noF (fun b h => h.elim (fun h => h) (fun h => h))); replace HB : Hid (Below w.heap.size w w4) := Lib.hid (HB.out.trans (hT.below (fun b ⟨a, e, hx⟩ => by have h1 := hlt a e; omega) HB.out.size)); have hsw4 : w3.heap.size ≤ w4.heap.size := (by have h1 := hT.size; (try simp only [World.size_alloc, World.size_setCell] at h1); exact h1); clear hG hA hT hlt; obtain ⟨zl0, zl1, zl2, zl3, zl4, zl5, zl6, fl⟩ := Zl.out.c7; obtain ⟨zr0, zr1, zr2, zr3, zr4, zr5, zr6, fr⟩ := Zr.out.c7; obtain ⟨zo0, zo1, zo2, zo3, zo4, zo5, zo6, fo⟩ := Zo.out.c7)
        | fail)
      have hT : Touch (fun b => b = w1.heap.size) w4 (w4.setCell ⟨w1.heap.size, 2, none⟩ (.slice C2 (n2 + 1) j2)) := (Touch.refl (fun b => b = w1.heap.size) w4).setCell (p := ⟨w1.heap.size, 2, none⟩) rfl (.slice C2 (n2 + 1) j2)
      replace Zl : Hid (Zx (w.heap.size) [.int .i64 f0, .bool f1, .slice A2 n2 c2, .int .i64 f3, .slice A4 n4 c4, .int .i64 f5, .slice A6 n6 c6] (w4.setCell ⟨w1.heap.size, 2, none⟩ (.slice C2 (n2 + 1) j2))) := Lib.hid (Zl.out.touch hT (by have h1 := HB.out.size; omega))
      replace Zr : Hid (Zx (w.heap.size + 1) [.int .i64 0, .bool false, .slice none 0 0, .int .i64 0, .slice none 0 0, .int .i64 0, .slice none 0 0] (w4.setCell ⟨w1.heap.size, 2, none⟩ (.slice C2 (n2 + 1) j2))) := Lib.hid (Zr.out.touch hT (by have h1 := HB.out.size; omega))
      replace G2 : Hid (Grow 174 3 (w.heap.size + 1 + 1) (w4.setCell ⟨w1.heap.size, 2, none⟩ (.slice C2 (n2 + 1) j2)) C2 (n2 + 1) j2 (L2 ++ [Dat.r [.i (wrap64 (f3 + 1)), .i x, .i 1]]) (fun _ => False)) := Lib.hid (G2.out.touch hT (fun a e h => No2.out a e h) (fun _ h => h.elim))
      replace G4 : Hid (Grow 177 2 (w.heap.size + 1 + 1) (w4.setCell ⟨w1.heap.size, 2, none⟩ (.slice C2 (n2 + 1) j2)) B4 n4 k4 L4 (fun _ => False)) := Lib.hid (G4.out.touch hT (fun a e h => No4.out a e h) (fun _ h => h.elim))
      replace G6 : Hid (Grow 177 2 (w.heap.size + 1 + 1) (w4.setCell ⟨w1.heap.size, 2, none⟩ (.slice C2 (n2 + 1) j2)) B6 n6 k6 L6 (fun _ => False)) := Lib.hid (G6.out.touch hT (fun a e h => No6.out a e h) (fun _ h => h.elim))
      replace Zo : Hid (Zx (w1.heap.size) [.int .i64 f0, .bool f1, .slice C2 (n2 + 1) j2, .int .i64 (wrap64 (f3 + 1)), .slice B4 n4 k4, .int .i64 f5, .slice B6 n6 k6] (w4.setCell ⟨w1.heap.size, 2, none⟩ (.slice C2 (n2 + 1) j2))) := Lib.hid (Zo.out.put 2 (.slice C2 (n2 + 1) j2))
      replace HB : Hid (Below w.heap.size w (w4.setCell ⟨w1.heap.size, 2, none⟩ (.slice C2 (n2 + 1) j2))) := Lib.hid (HB.out.trans (hT.below (fun b h => by rw [h]; omega) HB.out.size))
      clear hT
      clear zl0 zl1 zl2 zl3 zl4 zl5 zl6 fl
      clear zr0 zr1 zr2 zr3 zr4 zr5 zr6 fr
      clear zo0 zo1 zo2 zo3 zo4 zo5 zo6 fo
      have hsw5 : w4.heap.size ≤ (w4.setCell ⟨w1.heap.size, 2, none⟩ (.slice C2 (n2 + 1) j2)).heap.size := by (first | (simp; done) | (simp only [World.size_alloc, World.size_setCell]; omega))
      generalize (w4.setCell ⟨w1.heap.size, 2, none⟩ (.slice C2 (n2 + 1) j2)) = w5 at *
      obtain ⟨zl0, zl1, zl2, zl3, zl4, zl5, zl6, fl⟩ := Zl.out.c7
      obtain ⟨zr0, zr1, zr2, zr3, zr4, zr5, zr6, fr⟩ := Zr.out.c7
      obtain ⟨zo0, zo1, zo2, zo3, zo4, zo5, zo6, fo⟩ := Zo.out.c7
      go_region_law (fail)
      all_goals (
        have E2 : Hid (n2 + 1 = (putL x (wrap64 (f3 + 1)) L2).length) := Lib.hid (by rw [HP.out, List.length_append, HN0.out]; rfl)
        go_wp2_with fail
        refine bodyPost_ret (v := .tuple #[.agg #[.int .i64 f0, .bool f1, .slice C2 (n2 + 1) j2, .int .i64 (wrap64 (f3 + 1)), .slice B4 n4 k4, .int .i64 f5, .slice B6 n6 k6], .int .i64 (wrap64 (f3 + 1))]) ?hres rfl ?hpost
        case hres =>
          refine results_box2 rfl _ _ (w.heap.size + 1) [.int .i64 f0, .bool f1, .slice C2 (n2 + 1) j2, .int .i64 (wrap64 (f3 + 1)), .slice B4 n4 k4, .int .i64 f5, .slice B6 n6 k6] (.int .i64 (wrap64 (f3 + 1))) _ rfl rfl ?_ Try.underlying97 rfl (by kernel_rfl)
          refine Zx.box ?_
          repeat (first | with_reducible exact Zr.out | with_reducible refine Zx.drewB ?_ | with_reducible apply Zx.put7)
        case hpost =>
          suffices h9 : ∀ w' : World, Touch (fun b => b = w.heap.size + 1) w5 w' → GivesLI f0 f1 (putL x (wrap64 (f3 + 1)) L2) (putL x (wrap64 (f3 + 1)) L2).length (putN x f3 L2) L4 n4 f5 L6 n6 (putP x (wrap64 (f3 + 1)) L2) w (.returned (.tuple #[.agg #[.int .i64 f0, .bool f1, .slice C2 (n2 + 1) j2, .int .i64 (wrap64 (f3 + 1)), .slice B4 n4 k4, .int .i64 f5, .slice B6 n6 k6], .int .i64 (wrap64 (f3 + 1))])) w' from h9 _ (by repeat (first | with_reducible exact Touch.refl _ _ | with_reducible refine Touch.drew ?_ | with_reducible refine Touch.put7 ?_ (Eq.refl _)))
          intro w' hT9
          obtain ⟨hL9, hB9⟩ := Link3.fin (W := w) (g := w.heap.size + 1) G2.out G4.out G6.out P24.out P26.out P46.out hT9 HB.out (by omega) (by omega)
          exact GivesLI.of ⟨_, _, _, _, _, _, rfl, hL9, hB9⟩ HP.out.symm E2.out HN.out.symm HV.out.symm)
end Go.Proofs.Ytmeacgpebpfpbaa
