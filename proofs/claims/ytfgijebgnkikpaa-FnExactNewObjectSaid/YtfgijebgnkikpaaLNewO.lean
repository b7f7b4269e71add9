/- Exact laws of chapter 9: NewObject. -/
import Derived.Test.YtfgijebgnkikpaaLawE0
import Derived.Test.YtfgijebgnkikpaaNewO
import Derived.Test.YtfgijebgnkikpaaMarkE
import Derived.Test.YtfgijebgnkikpaaTyE4
import Derived.Test.YtfgijebgnkikpaaTyE5
import Derived.Deep.RegionHeld3
import Derived.LoopTactic
import Derived.Lib.Hide
import Derived.Deep.QuietTactic
import Derived.BigQuiet
import Derived.Deep.RegionWith
import Derived.Handy
namespace Go.Proofs.Ytfgijebgnkikpaa
open Go.RowKit
set_option linter.unusedVariables false
set_option linter.unusedSimpArgs false
theorem nil_lies9 (w : World) : Lies w (.l []) [.slice none 0 0] := by rw [Lies]; exact ⟨none, 0, 0, rfl, rfl, Or.inl rfl⟩
set_option maxRecDepth 100000 in
set_option maxHeartbeats 16000000 in
theorem law_NewObject (sc : Int) (L : List Dat) (A : Option Addr) (n c : Nat) (W : World) (hl : Lies W (.l L) [.slice A n c]) (ht : ∀ x ∈ L, Has tyValue x) (hm : n ≤ 9223372036854775807) :
    Calls Try.prog 4 #[.int .i64 sc, .slice A n c] W (GivesBool true W) := by
  have Z1 := Lib.hid hl
  have hc := Lib.hid hl.count
  clear hl
  have HT : Hid (Below W.heap.size W W) := Lib.hid (Below.refl _ _)
  rcases leftD_cases (Dat.l L) 1048576 with hbig | ⟨r, hr, hr0, hr1, hbk⟩
  case inl =>
    have HBIG := Lib.hid hbig
    clear hbig
    go_enter Try.func4, Try.ntmps4
    go_wp2_with fail
    refine (szValueS L A n c 1048576 _ (by omega) (by omega) (Z1.out.below HT.out) ht hm).mono ?_
    rintro e w1 ⟨rfl, hb⟩
    rw [HBIG.out]
    replace HT := Lib.hid (HT.out.trans (hb.mono HT.out.size))
    have hsw1 : W.heap.size ≤ w1.heap.size := by have h1 := hb.size; (try rw [World.size_alloc] at h1); exact h1
    clear hb
    go_wp2_with fail
    go_ret
    exact GivesBool.ret HT.out
  case inr =>
    have HR := Lib.hid hr
    clear hr
    have hq : (Dat.l L).bulk ≤ 1099511627776 := by omega
    have hn : n ≤ 1099511627776 := by have h1 := hc.out; simp only [Dat.bulk] at hbk; omega
    have hcnt : (cntAll L : Int) ≤ 2097152 := by have h1 := cnt_few (K := 2) (B := 1048576) (t := tyValue) (by decide) ht (by omega); omega
    go_enter Try.func4, Try.ntmps4
    go_wp2_with fail
    refine (szValueS L A n c 1048576 _ (by omega) (by omega) (Z1.out.below HT.out) ht hm).mono ?_
    rintro e w1 ⟨rfl, hb⟩
    rw [HR.out]
    replace HT := Lib.hid (HT.out.trans (hb.mono HT.out.size))
    have hsw1 : W.heap.size ≤ w1.heap.size := by have h1 := hb.size; (try rw [World.size_alloc] at h1); exact h1
    clear hb
    go_wp2_with fail
    refine (toValueS L A n c _ (Z1.out.below HT.out) ht hq).mono ?_
    rintro e w2 ⟨At, n9, ct, rfl, hO, hb⟩
    obtain rfl : n = n9 := by rw [← hO.lies.count, ← hc.out]
    replace HT := Lib.hid (HT.out.trans (hb.mono HT.out.size))
    have hsw2 : w1.heap.size ≤ w2.heap.size := by have h1 := hb.size; (try rw [World.size_alloc] at h1); exact h1
    have Ht : Hid (Owns w2 (.l L) [.slice At n ct] (rng (w1.heap.size) w2.heap.size)) := Lib.hid (hO.mono (fun b h1 => ⟨by have h2 := h1.1; (try rw [World.size_alloc] at h2); exact h2, h1.2⟩))
    clear hO
    clear hb
    go_wp2_with fail
    refine (specNewObj sc L At n ct _ Ht.out.lies ht hn).mono ?_
    rintro e w3 ⟨Aw, cw, rfl, hO, hb⟩
    replace Ht := Lib.hid (Ht.out.below hb)
    replace HT := Lib.hid (HT.out.trans (hb.mono HT.out.size))
    have hsw3 : w2.heap.size ≤ w3.heap.size := by have h1 := hb.size; (try rw [World.size_alloc] at h1); exact h1
    have Hw : Hid (Owns w3 (.l L) [.slice Aw n cw] (rng (w2.heap.size) w3.heap.size)) := Lib.hid (hO.mono (fun b h1 => ⟨by have h2 := h1.1; (try rw [World.size_alloc] at h2); exact h2, h1.2⟩))
    clear hO
    clear hb
    have Bw := Lib.hid (Box.new w3 #[.int .i64 1, .int .i64 sc, .slice Aw n cw, .int .i64 0, .int .i64 0, .int .i64 0, .slice none 0 0, .slice none 0 0, .int .i64 0, .int .i64 0, .int .i64 0, .int .i64 0] 30)
    have ha : Below w3.heap.size w3 (w3.alloc (.cells #[.int .i64 1, .int .i64 sc, .slice Aw n cw, .int .i64 0, .int .i64 0, .int .i64 0, .slice none 0 0, .slice none 0 0, .int .i64 0, .int .i64 0, .int .i64 0, .int .i64 0] 30)) := (Below.refl _ _).alloc (Nat.le_refl _) _
    replace Ht := Lib.hid (Ht.out.below ha)
    replace Hw := Lib.hid (Hw.out.below ha)
    replace HT := Lib.hid (HT.out.trans (ha.mono HT.out.size))
    clear ha
    clear Ht
    go_wp2_with fail
    refine (toValueS L A n c _ (Z1.out.below HT.out) ht hq).mono ?_
    rintro e w4 ⟨Ax, n9, cx, rfl, hO, hb⟩
    obtain rfl : n = n9 := by rw [← hO.lies.count, ← hc.out]
    replace Hw := Lib.hid (Hw.out.below hb)
    replace Bw := Lib.hid (Bw.out.below hb)
    replace HT := Lib.hid (HT.out.trans (hb.mono HT.out.size))
    have hsw4 : w3.heap.size + 1 ≤ w4.heap.size := by have h1 := hb.size; (try rw [World.size_alloc] at h1); exact h1
    have Hx : Hid (Owns w4 (.l L) [.slice Ax n cx] (rng (w3.heap.size + 1) w4.heap.size)) := Lib.hid (hO.mono (fun b h1 => ⟨by have h2 := h1.1; (try rw [World.size_alloc] at h2); exact h2, h1.2⟩))
    clear hO
    clear hb
    go_wp2_with fail
    refine (implNewObj sc L Ax n cx _ (Hx.out.lies) ht hn).mono ?_
    rintro e w5 ⟨Ag, cg, rfl, hO, hb⟩
    replace Hw := Lib.hid (Hw.out.below hb)
    replace Hx := Lib.hid (Hx.out.below hb)
    replace Bw := Lib.hid (Bw.out.below hb)
    replace HT := Lib.hid (HT.out.trans (hb.mono HT.out.size))
    have hsw5 : w4.heap.size ≤ w5.heap.size := by have h1 := hb.size; (try rw [World.size_alloc] at h1); exact h1
    have Hg : Hid (Owns w5 (.l L) [.slice Ag n cg] (rng (w4.heap.size) w5.heap.size)) := Lib.hid (hO.mono (fun b h1 => ⟨by have h2 := h1.1; (try rw [World.size_alloc] at h2); exact h2, h1.2⟩))
    clear hO
    clear hb
    have Bg := Lib.hid (Box.new w5 #[.int .i64 1, .int .i64 sc, .slice Ag n cg, .int .i64 0, .int .i64 0, .int .i64 0, .slice none 0 0, .slice none 0 0, .int .i64 0, .int .i64 0, .int .i64 0, .int .i64 0] 30)
    have ha : Below w5.heap.size w5 (w5.alloc (.cells #[.int .i64 1, .int .i64 sc, .slice Ag n cg, .int .i64 0, .int .i64 0, .int .i64 0, .slice none 0 0, .slice none 0 0, .int .i64 0, .int .i64 0, .int .i64 0, .int .i64 0] 30)) := (Below.refl _ _).alloc (Nat.le_refl _) _
    replace Hw := Lib.hid (Hw.out.below ha)
    replace Hx := Lib.hid (Hx.out.below ha)
    replace Hg := Lib.hid (Hg.out.below ha)
    replace Bw := Lib.hid (Bw.out.below ha)
    replace HT := Lib.hid (HT.out.trans (ha.mono HT.out.size))
    clear ha
    obtain ⟨zw0, zw1, zw2, zw3, zw4, zw5, zw6, zw7, zw8, zw9, zw10, zw11⟩ := Bw.out.c12
    obtain ⟨zg0, zg1, zg2, zg3, zg4, zg5, zg6, zg7, zg8, zg9, zg10, zg11⟩ := Bg.out.c12
    go_wp2_with fail
    refine (eqEntity 1 sc L Ag n cg 0 0 0 [] none 0 0 [] none 0 0 0 0 0 0 Aw cw none 0 none 0 _ Hg.out.lies Hw.out.lies ht hm (nil_lies9 _) (nil_lies9 _) (fun x h => by cases h) (by omega) (nil_lies9 _) (nil_lies9 _) (fun x h => by cases h) (by omega)).mono ?_
    rintro e w6 ⟨rfl, hb⟩
    replace Hw := Lib.hid (Hw.out.below hb)
    replace Hx := Lib.hid (Hx.out.below hb)
    replace Hg := Lib.hid (Hg.out.below hb)
    replace Bw := Lib.hid (Bw.out.below hb)
    replace Bg := Lib.hid (Bg.out.below hb)
    replace HT := Lib.hid (HT.out.trans (hb.mono HT.out.size))
    have hsw6 : w5.heap.size + 1 ≤ w6.heap.size := by have h1 := hb.size; (try rw [World.size_alloc] at h1); exact h1
    clear hb
    clear zw0 zw1 zw2 zw3 zw4 zw5 zw6 zw7 zw8 zw9 zw10 zw11
    clear zg0 zg1 zg2 zg3 zg4 zg5 zg6 zg7 zg8 zg9 zg10 zg11
    go_wp2_with fail
    refine (toValueS L A n c _ (Z1.out.below HT.out) ht hq).mono ?_
    rintro e w7 ⟨Au, n9, cu, rfl, hO, hb⟩
    obtain rfl : n = n9 := by rw [← hO.lies.count, ← hc.out]
    replace Hw := Lib.hid (Hw.out.below hb)
    replace Hx := Lib.hid (Hx.out.below hb)
    replace Hg := Lib.hid (Hg.out.below hb)
    replace Bw := Lib.hid (Bw.out.below hb)
    replace Bg := Lib.hid (Bg.out.below hb)
    replace HT := Lib.hid (HT.out.trans (hb.mono HT.out.size))
    have hsw7 : w6.heap.size ≤ w7.heap.size := by have h1 := hb.size; (try rw [World.size_alloc] at h1); exact h1
    have Hu : Hid (Owns w7 (.l L) [.slice Au n cu] (rng (w6.heap.size) w7.heap.size)) := Lib.hid (hO.mono (fun b h1 => ⟨by have h2 := h1.1; (try rw [World.size_alloc] at h2); exact h2, h1.2⟩))
    clear hO
    clear hb
    go_wp2_with fail
    refine (eqValueS L Ax Au n n cx cu _ Hx.out.lies Hu.out.lies ht hm).mono ?_
    rintro e w8 ⟨rfl, hb⟩
    replace Hw := Lib.hid (Hw.out.below hb)
    replace Hx := Lib.hid (Hx.out.below hb)
    replace Hg := Lib.hid (Hg.out.below hb)
    replace Hu := Lib.hid (Hu.out.below hb)
    replace Bw := Lib.hid (Bw.out.below hb)
    replace Bg := Lib.hid (Bg.out.below hb)
    replace HT := Lib.hid (HT.out.trans (hb.mono HT.out.size))
    have hsw8 : w7.heap.size ≤ w8.heap.size := by have h1 := hb.size; (try rw [World.size_alloc] at h1); exact h1
    clear hb
    clear Hu
    go_wp2_with fail
    refine (markValueS L Ax n cx 1 (rng (w3.heap.size + 1) (w4.heap.size)) _ Hx.out ht (by omega) (by omega) hn).mono ?_
    rintro e w9 ⟨rfl, hO, hb⟩
    replace Hw := Lib.hid (Hw.out.touch hb (rng_apart (by omega)))
    replace Hg := Lib.hid (Hg.out.touch hb (rng_apart (by omega)))
    replace Bw := Lib.hid (Bw.out.touch hb (rng_out (by omega)))
    replace Bg := Lib.hid (Bg.out.touch hb (rng_out (by omega)))
    replace HT := Lib.hid (hb.low HT.out (by omega))
    have hsw9 : w8.heap.size ≤ w9.heap.size := hb.size
    replace Hx := Lib.hid hO
    clear hO hb
    have hk0 : (0 : Int) ≤ 1 + cntAll L := by omega
    have hk1 : (decide ((1 : Int) + cntAll L < 0)) = false := by simp; omega
    obtain ⟨zw0, zw1, zw2, zw3, zw4, zw5, zw6, zw7, zw8, zw9, zw10, zw11⟩ := Bw.out.c12
    obtain ⟨zg0, zg1, zg2, zg3, zg4, zg5, zg6, zg7, zg8, zg9, zg10, zg11⟩ := Bg.out.c12
    go_wp2_with fail
    refine (eqEntity 1 sc L Ag n cg 0 0 0 [] none 0 0 [] none 0 0 0 0 0 0 Aw cw none 0 none 0 _ Hg.out.lies Hw.out.lies ht hm (nil_lies9 _) (nil_lies9 _) (fun x h => by cases h) (by omega) (nil_lies9 _) (nil_lies9 _) (fun x h => by cases h) (by omega)).mono ?_
    rintro e w10 ⟨rfl, hb⟩
    replace Hw := Lib.hid (Hw.out.below hb)
    replace Hx := Lib.hid (Hx.out.below hb)
    replace Hg := Lib.hid (Hg.out.below hb)
    replace Bw := Lib.hid (Bw.out.below hb)
    replace Bg := Lib.hid (Bg.out.below hb)
    replace HT := Lib.hid (HT.out.trans (hb.mono HT.out.size))
    have hsw10 : w9.heap.size ≤ w10.heap.size := by have h1 := hb.size; (try rw [World.size_alloc] at h1); exact h1
    clear hb
    clear zw0 zw1 zw2 zw3 zw4 zw5 zw6 zw7 zw8 zw9 zw10 zw11
    clear zg0 zg1 zg2 zg3 zg4 zg5 zg6 zg7 zg8 zg9 zg10 zg11
    clear Hx
    obtain ⟨zg0, zg1, zg2, zg3, zg4, zg5, zg6, zg7, zg8, zg9, zg10, zg11⟩ := Bg.out.c12
    go_wp2_with fail
    refine (markEnt0 1 sc 0 0 0 0 0 0 0 L Ag none none n cg 0 0 1 (rng (w4.heap.size) (w5.heap.size)) _ Hg.out ht (by omega) (by omega) hn (fun x hx => by have := hx.2; (try rw [World.size_alloc]); omega)).mono ?_
    rintro e w11 ⟨rfl, hO, hb⟩
    replace Hw := Lib.hid (Hw.out.touch hb (rng_apart (by omega)))
    replace Bw := Lib.hid (Bw.out.touch hb (rng_out (by omega)))
    replace Bg := Lib.hid (Bg.out.touch hb (rng_out (by omega)))
    replace HT := Lib.hid (hb.low HT.out (by omega))
    have hsw11 : w10.heap.size ≤ w11.heap.size := hb.size
    replace Hg := Lib.hid hO
    clear hO hb
    clear zg0 zg1 zg2 zg3 zg4 zg5 zg6 zg7 zg8 zg9 zg10 zg11
    obtain ⟨zg0, zg1, zg2, zg3, zg4, zg5, zg6, zg7, zg8, zg9, zg10, zg11⟩ := Bg.out.c12
    go_wp2_with fail
    refine (heldEnt0 1 sc 0 0 0 0 0 0 0 L Ag none none n cg 0 0 1 _ Hg.out.lies ht (by omega) (by omega) hn).mono ?_
    rintro e w12 ⟨rfl, hb⟩
    replace Hw := Lib.hid (Hw.out.below hb)
    replace Hg := Lib.hid (Hg.out.below hb)
    replace Bw := Lib.hid (Bw.out.below hb)
    replace Bg := Lib.hid (Bg.out.below hb)
    replace HT := Lib.hid (HT.out.trans (hb.mono HT.out.size))
    have hsw12 : w11.heap.size ≤ w12.heap.size := by have h1 := hb.size; (try rw [World.size_alloc] at h1); exact h1
    clear hb
    clear zg0 zg1 zg2 zg3 zg4 zg5 zg6 zg7 zg8 zg9 zg10 zg11
    go_wp2_with fail
    refine (toValueS L A n c _ (Z1.out.below HT.out) ht hq).mono ?_
    rintro e w13 ⟨Av, n9, cv, rfl, hO, hb⟩
    obtain rfl : n = n9 := by rw [← hO.lies.count, ← hc.out]
    replace Hw := Lib.hid (Hw.out.below hb)
    replace Hg := Lib.hid (Hg.out.below hb)
    replace Bw := Lib.hid (Bw.out.below hb)
    replace Bg := Lib.hid (Bg.out.below hb)
    replace HT := Lib.hid (HT.out.trans (hb.mono HT.out.size))
    have hsw13 : w12.heap.size ≤ w13.heap.size := by have h1 := hb.size; (try rw [World.size_alloc] at h1); exact h1
    have Hv : Hid (Owns w13 (.l L) [.slice Av n cv] (rng (w12.heap.size) w13.heap.size)) := Lib.hid (hO.mono (fun b h1 => ⟨by have h2 := h1.1; (try rw [World.size_alloc] at h2); exact h2, h1.2⟩))
    clear hO
    clear hb
    go_wp2_with fail
    refine (implNewObj sc L Av n cv _ Hv.out.lies ht hn).mono ?_
    rintro e w14 ⟨Ah, ch, rfl, hO, hb⟩
    replace Hw := Lib.hid (Hw.out.below hb)
    replace Hg := Lib.hid (Hg.out.below hb)
    replace Hv := Lib.hid (Hv.out.below hb)
    replace Bw := Lib.hid (Bw.out.below hb)
    replace Bg := Lib.hid (Bg.out.below hb)
    replace HT := Lib.hid (HT.out.trans (hb.mono HT.out.size))
    have hsw14 : w13.heap.size ≤ w14.heap.size := by have h1 := hb.size; (try rw [World.size_alloc] at h1); exact h1
    have Hh : Hid (Owns w14 (.l L) [.slice Ah n ch] (rng (w13.heap.size) w14.heap.size)) := Lib.hid (hO.mono (fun b h1 => ⟨by have h2 := h1.1; (try rw [World.size_alloc] at h2); exact h2, h1.2⟩))
    clear hO
    clear hb
    have Bh := Lib.hid (Box.new w14 #[.int .i64 1, .int .i64 sc, .slice Ah n ch, .int .i64 0, .int .i64 0, .int .i64 0, .slice none 0 0, .slice none 0 0, .int .i64 0, .int .i64 0, .int .i64 0, .int .i64 0] 30)
    have ha : Below w14.heap.size w14 (w14.alloc (.cells #[.int .i64 1, .int .i64 sc, .slice Ah n ch, .int .i64 0, .int .i64 0, .int .i64 0, .slice none 0 0, .slice none 0 0, .int .i64 0, .int .i64 0, .int .i64 0, .int .i64 0] 30)) := (Below.refl _ _).alloc (Nat.le_refl _) _
    replace Hw := Lib.hid (Hw.out.below ha)
    replace Hg := Lib.hid (Hg.out.below ha)
    replace Hv := Lib.hid (Hv.out.below ha)
    replace Hh := Lib.hid (Hh.out.below ha)
    replace Bw := Lib.hid (Bw.out.below ha)
    replace Bg := Lib.hid (Bg.out.below ha)
    replace HT := Lib.hid (HT.out.trans (ha.mono HT.out.size))
    clear ha
    clear Hv
    obtain ⟨zw0, zw1, zw2, zw3, zw4, zw5, zw6, zw7, zw8, zw9, zw10, zw11⟩ := Bw.out.c12
    obtain ⟨zh0, zh1, zh2, zh3, zh4, zh5, zh6, zh7, zh8, zh9, zh10, zh11⟩ := Bh.out.c12
    go_wp2_with fail
    refine (eqEntity 1 sc L Ah n ch 0 0 0 [] none 0 0 [] none 0 0 0 0 0 0 Aw cw none 0 none 0 _ Hh.out.lies Hw.out.lies ht hm (nil_lies9 _) (nil_lies9 _) (fun x h => by cases h) (by omega) (nil_lies9 _) (nil_lies9 _) (fun x h => by cases h) (by omega)).mono ?_
    rintro e w15 ⟨rfl, hb⟩
    replace Hw := Lib.hid (Hw.out.below hb)
    replace Hg := Lib.hid (Hg.out.below hb)
    replace Hh := Lib.hid (Hh.out.below hb)
    replace Bw := Lib.hid (Bw.out.below hb)
    replace Bg := Lib.hid (Bg.out.below hb)
    replace Bh := Lib.hid (Bh.out.below hb)
    replace HT := Lib.hid (HT.out.trans (hb.mono HT.out.size))
    have hsw15 : w14.heap.size + 1 ≤ w15.heap.size := by have h1 := hb.size; (try rw [World.size_alloc] at h1); exact h1
    clear hb
    clear zw0 zw1 zw2 zw3 zw4 zw5 zw6 zw7 zw8 zw9 zw10 zw11
    clear zh0 zh1 zh2 zh3 zh4 zh5 zh6 zh7 zh8 zh9 zh10 zh11
    obtain ⟨zg0, zg1, zg2, zg3, zg4, zg5, zg6, zg7, zg8, zg9, zg10, zg11⟩ := Bg.out.c12
    go_wp2_with fail
    refine (heldEnt0 1 sc 0 0 0 0 0 0 0 L Ag none none n cg 0 0 1 _ Hg.out.lies ht (by omega) (by omega) hn).mono ?_
    rintro e w16 ⟨rfl, hb⟩
    replace Hw := Lib.hid (Hw.out.below hb)
    replace Hg := Lib.hid (Hg.out.below hb)
    replace Hh := Lib.hid (Hh.out.below hb)
    replace Bw := Lib.hid (Bw.out.below hb)
    replace Bg := Lib.hid (Bg.out.below hb)
    replace Bh := Lib.hid (Bh.out.below hb)
    replace HT := Lib.hid (HT.out.trans (hb.mono HT.out.size))
    have hsw16 : w15.heap.size ≤ w16.heap.size := by have h1 := hb.size; (try rw [World.size_alloc] at h1); exact h1
    clear hb
    clear zg0 zg1 zg2 zg3 zg4 zg5 zg6 zg7 zg8 zg9 zg10 zg11
    go_wp2_with fail
    go_ret
    exact GivesBool.ret HT.out
end Go.Proofs.Ytfgijebgnkikpaa
