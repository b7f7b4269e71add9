/- Exact laws of chapter 10: DropEntry. -/
import Derived.Test.YtdedioghljkflaaLnkD
import Derived.Test.YtdedioghljkflaaMarkL
import Derived.Test.YtdedioghljkflaaTyG3
import Derived.Test.YtdedioghljkflaaTyG5
import Derived.Deep.RegionHeld3
import Derived.LoopTactic
import Derived.Lib.Hide
import Derived.Deep.QuietTactic
import Derived.BigQuiet
import Derived.Deep.RegionWith
import Derived.Handy
namespace Go.Proofs.Ytdedioghljkflaa
open Go.RowKit
set_option linter.unusedVariables false
set_option linter.unusedSimpArgs false
set_option maxRecDepth 100000 in
set_option maxHeartbeats 16000000 in
theorem law_DropEntry (L : List Dat) (A : Option Addr) (n c : Nat) (a : Int) (W : World) (hl : Lies W (.l L) [.slice A n c]) (ht : ∀ x ∈ L, Has tyQuestion x) (hm : n ≤ 9223372036854775807) :
    Calls Try.prog 11 #[.slice A n c, .int .i64 a] W (GivesBool true W) := by
  have Z1 := Lib.hid hl
  have hc := Lib.hid hl.count
  clear hl
  have HT : Hid (Below W.heap.size W W) := Lib.hid (Below.refl _ _)
  rcases leftD_cases (Dat.l L) 1048576 with hbig | ⟨r, hr, hr0, hr1, hbk⟩
  case inl =>
    have HBIG := Lib.hid hbig
    clear hbig
    go_enter Try.func11, Try.ntmps11
    go_wp2_with fail
    refine (szQuestionS L A n c 1048576 _ (by omega) (by omega) (Z1.out.below HT.out) ht hm).mono ?_
    rintro e w1 ⟨rfl, hb⟩
    rw [HBIG.out]
    replace HT := Lib.hid (HT.out.trans (hb.mono HT.out.size))
    have hsw1 : W.heap.size ≤ w1.heap.size := by have h1 := hb.size; (try rw [World.size_alloc] at h1); exact h1
    clear hb
    go_wp2_with fail
    go_ret
    exact GivesBool.ret HT.out
  case inr =>
    have HR := Lib.hid hr
    clear hr
    have hq : (Dat.l L).bulk ≤ 1099511627776 := by omega
    have hn : n ≤ 1099511627776 := by have h1 := hc.out; simp only [Dat.bulk] at hbk; omega
    have htD : ∀ x ∈ dropQ a L, Has tyQuestion x := fun x hx => ht x (List.mem_filter.1 hx).1
    have hlD : (dropQ a L).length ≤ n := by have h1 := hc.out; have h2 := List.length_filter_le (fun d => !isF 0 a d) L; rw [h1] at h2; exact h2
    have hcnt : (cntAll L : Int) ≤ 2097152 := by have h1 := cnt_few (K := 2) (B := 1048576) (t := tyQuestion) (by decide) ht (by omega); omega
    have hcntD : (cntAll (dropQ a L) : Int) ≤ 2097152 := by have h1 := cnt_few (K := 2) (B := 1048576) (t := tyQuestion) (by decide) htD (by have h2 := hc.out; have h3 := noneQuestion htD; simp only [Dat.bulk] at hbk ⊢; omega); omega
    have HLD := Lib.hid hlD
    clear hlD
    go_enter Try.func11, Try.ntmps11
    go_wp2_with fail
    refine (szQuestionS L A n c 1048576 _ (by omega) (by omega) (Z1.out.below HT.out) ht hm).mono ?_
    rintro e w1 ⟨rfl, hb⟩
    rw [HR.out]
    replace HT := Lib.hid (HT.out.trans (hb.mono HT.out.size))
    have hsw1 : W.heap.size ≤ w1.heap.size := by have h1 := hb.size; (try rw [World.size_alloc] at h1); exact h1
    clear hb
    go_wp2_with fail
    refine (toQuestionS L A n c _ (Z1.out.below HT.out) ht hq).mono ?_
    rintro e w2 ⟨At, n9, ct, rfl, hO, hb⟩
    obtain rfl : n = n9 := by rw [← hO.lies.count, ← hc.out]
    replace HT := Lib.hid (HT.out.trans (hb.mono HT.out.size))
    have hsw2 : w1.heap.size ≤ w2.heap.size := by have h1 := hb.size; (try rw [World.size_alloc] at h1); exact h1
    have Ht : Hid (Owns w2 (.l L) [.slice At n ct] (rng (w1.heap.size) w2.heap.size)) := Lib.hid (hO.mono (fun b h1 => ⟨by have h2 := h1.1; (try rw [World.size_alloc] at h2); exact h2, h1.2⟩))
    clear hO
    clear hb
    go_wp2_with fail
    refine (specDrop L At n ct a _ Ht.out.lies ht hn).mono ?_
    rintro e w3 ⟨Aw, m, cw, rfl, hO, hb⟩
    have hm9 := Lib.hid hO.lies.count
    have hmn : m ≤ n := by have h1 := hm9.out; have h2 := HLD.out; omega
    replace Ht := Lib.hid (Ht.out.below hb)
    replace HT := Lib.hid (HT.out.trans (hb.mono HT.out.size))
    have hsw3 : w2.heap.size ≤ w3.heap.size := by have h1 := hb.size; (try rw [World.size_alloc] at h1); exact h1
    have Hw : Hid (Owns w3 (.l (dropQ a L)) [.slice Aw m cw] (rng (w2.heap.size) w3.heap.size)) := Lib.hid (hO.mono (fun b h1 => ⟨by have h2 := h1.1; (try rw [World.size_alloc] at h2); exact h2, h1.2⟩))
    clear hO
    clear hb
    clear Ht
    go_wp2_with fail
    refine (toQuestionS L A n c _ (Z1.out.below HT.out) ht hq).mono ?_
    rintro e w4 ⟨Ax, n9, cx, rfl, hO, hb⟩
    obtain rfl : n = n9 := by rw [← hO.lies.count, ← hc.out]
    replace Hw := Lib.hid (Hw.out.below hb)
    replace HT := Lib.hid (HT.out.trans (hb.mono HT.out.size))
    have hsw4 : w3.heap.size ≤ w4.heap.size := by have h1 := hb.size; (try rw [World.size_alloc] at h1); exact h1
    have Hx : Hid (Owns w4 (.l L) [.slice Ax n cx] (rng (w3.heap.size) w4.heap.size)) := Lib.hid (hO.mono (fun b h1 => ⟨by have h2 := h1.1; (try rw [World.size_alloc] at h2); exact h2, h1.2⟩))
    clear hO
    clear hb
    go_wp2_with fail
    refine (implDrop L Ax n cx a _ Hx.out.lies ht hn).mono ?_
    rintro e w5 ⟨Ag, m9, cg, rfl, hO, hb⟩
    obtain rfl : m = m9 := by rw [← hO.lies.count, ← hm9.out]
    replace Hw := Lib.hid (Hw.out.below hb)
    replace Hx := Lib.hid (Hx.out.below hb)
    replace HT := Lib.hid (HT.out.trans (hb.mono HT.out.size))
    have hsw5 : w4.heap.size ≤ w5.heap.size := by have h1 := hb.size; (try rw [World.size_alloc] at h1); exact h1
    have Hg : Hid (Owns w5 (.l (dropQ a L)) [.slice Ag m cg] (rng (w4.heap.size) w5.heap.size)) := Lib.hid (hO.mono (fun b h1 => ⟨by have h2 := h1.1; (try rw [World.size_alloc] at h2); exact h2, h1.2⟩))
    clear hO
    clear hb
    go_wp2_with fail
    refine (eqQuestionS (dropQ a L) Ag Aw m m cg cw _ Hg.out.lies Hw.out.lies htD (by omega)).mono ?_
    rintro e w6 ⟨rfl, hb⟩
    replace Hw := Lib.hid (Hw.out.below hb)
    replace Hx := Lib.hid (Hx.out.below hb)
    replace Hg := Lib.hid (Hg.out.below hb)
    replace HT := Lib.hid (HT.out.trans (hb.mono HT.out.size))
    have hsw6 : w5.heap.size ≤ w6.heap.size := by have h1 := hb.size; (try rw [World.size_alloc] at h1); exact h1
    clear hb
    go_wp2_with fail
    refine (toQuestionS L A n c _ (Z1.out.below HT.out) ht hq).mono ?_
    rintro e w7 ⟨Au, n9, cu, rfl, hO, hb⟩
    obtain rfl : n = n9 := by rw [← hO.lies.count, ← hc.out]
    replace Hw := Lib.hid (Hw.out.below hb)
    replace Hx := Lib.hid (Hx.out.below hb)
    replace Hg := Lib.hid (Hg.out.below hb)
    replace HT := Lib.hid (HT.out.trans (hb.mono HT.out.size))
    have hsw7 : w6.heap.size ≤ w7.heap.size := by have h1 := hb.size; (try rw [World.size_alloc] at h1); exact h1
    have Hu : Hid (Owns w7 (.l L) [.slice Au n cu] (rng (w6.heap.size) w7.heap.size)) := Lib.hid (hO.mono (fun b h1 => ⟨by have h2 := h1.1; (try rw [World.size_alloc] at h2); exact h2, h1.2⟩))
    clear hO
    clear hb
    go_wp2_with fail
    refine (eqQuestionS L Ax Au n n cx cu _ Hx.out.lies Hu.out.lies ht hm).mono ?_
    rintro e w8 ⟨rfl, hb⟩
    replace Hw := Lib.hid (Hw.out.below hb)
    replace Hx := Lib.hid (Hx.out.below hb)
    replace Hg := Lib.hid (Hg.out.below hb)
    replace Hu := Lib.hid (Hu.out.below hb)
    replace HT := Lib.hid (HT.out.trans (hb.mono HT.out.size))
    have hsw8 : w7.heap.size ≤ w8.heap.size := by have h1 := hb.size; (try rw [World.size_alloc] at h1); exact h1
    clear hb
    clear Hu
    go_wp2_with fail
    refine (markQuestionS L Ax n cx 1 (rng (w3.heap.size) (w4.heap.size)) _ Hx.out ht (by omega) (by omega) hn).mono ?_
    rintro e w9 ⟨rfl, hO, hb⟩
    replace Hw := Lib.hid (Hw.out.touch hb (rng_apart (by omega)))
    replace Hg := Lib.hid (Hg.out.touch hb (rng_apart (by omega)))
    replace HT := Lib.hid (hb.low HT.out (by omega))
    have hsw9 : w8.heap.size ≤ w9.heap.size := hb.size
    replace Hx := Lib.hid hO
    clear hO hb
    have hk0 : (0 : Int) ≤ 1 + cntAll L := by omega
    have hk1 : (decide ((1 : Int) + cntAll L < 0)) = false := by simp; omega
    go_wp2_with fail
    refine (eqQuestionS (dropQ a L) Ag Aw m m cg cw _ Hg.out.lies Hw.out.lies htD (by omega)).mono ?_
    rintro e w10 ⟨rfl, hb⟩
    replace Hw := Lib.hid (Hw.out.below hb)
    replace Hx := Lib.hid (Hx.out.below hb)
    replace Hg := Lib.hid (Hg.out.below hb)
    replace HT := Lib.hid (HT.out.trans (hb.mono HT.out.size))
    have hsw10 : w9.heap.size ≤ w10.heap.size := by have h1 := hb.size; (try rw [World.size_alloc] at h1); exact h1
    clear hb
    clear Hx
    go_wp2_with fail
    refine (markQuestionS (dropQ a L) Ag m cg 1 (rng (w4.heap.size) (w5.heap.size)) _ Hg.out htD (by omega) (by omega) (by omega)).mono ?_
    rintro e w11 ⟨rfl, hO, hb⟩
    replace Hw := Lib.hid (Hw.out.touch hb (rng_apart (by omega)))
    replace HT := Lib.hid (hb.low HT.out (by omega))
    have hsw11 : w10.heap.size ≤ w11.heap.size := hb.size
    replace Hg := Lib.hid hO
    clear hO hb
    have hk2 : (0 : Int) ≤ 1 + cntAll (dropQ a L) := by omega
    have hk3 : (decide ((1 : Int) + cntAll (dropQ a L) < 0)) = false := by simp; omega
    go_wp2_with fail
    refine (heldQuestionS (dropQ a L) Ag m cg 1 _ Hg.out.lies htD (by omega) (by omega) (by omega)).mono ?_
    rintro e w12 ⟨rfl, hb⟩
    replace Hw := Lib.hid (Hw.out.below hb)
    replace Hg := Lib.hid (Hg.out.below hb)
    replace HT := Lib.hid (HT.out.trans (hb.mono HT.out.size))
    have hsw12 : w11.heap.size ≤ w12.heap.size := by have h1 := hb.size; (try rw [World.size_alloc] at h1); exact h1
    clear hb
    go_wp2_with fail
    refine (toQuestionS L A n c _ (Z1.out.below HT.out) ht hq).mono ?_
    rintro e w13 ⟨Av, n9, cv, rfl, hO, hb⟩
    obtain rfl : n = n9 := by rw [← hO.lies.count, ← hc.out]
    replace Hw := Lib.hid (Hw.out.below hb)
    replace Hg := Lib.hid (Hg.out.below hb)
    replace HT := Lib.hid (HT.out.trans (hb.mono HT.out.size))
    have hsw13 : w12.heap.size ≤ w13.heap.size := by have h1 := hb.size; (try rw [World.size_alloc] at h1); exact h1
    have Hv : Hid (Owns w13 (.l L) [.slice Av n cv] (rng (w12.heap.size) w13.heap.size)) := Lib.hid (hO.mono (fun b h1 => ⟨by have h2 := h1.1; (try rw [World.size_alloc] at h2); exact h2, h1.2⟩))
    clear hO
    clear hb
    go_wp2_with fail
    refine (implDrop L Av n cv a _ Hv.out.lies ht hn).mono ?_
    rintro e w14 ⟨Ah, m9, ch, rfl, hO, hb⟩
    obtain rfl : m = m9 := by rw [← hO.lies.count, ← hm9.out]
    replace Hw := Lib.hid (Hw.out.below hb)
    replace Hg := Lib.hid (Hg.out.below hb)
    replace Hv := Lib.hid (Hv.out.below hb)
    replace HT := Lib.hid (HT.out.trans (hb.mono HT.out.size))
    have hsw14 : w13.heap.size ≤ w14.heap.size := by have h1 := hb.size; (try rw [World.size_alloc] at h1); exact h1
    have Hh : Hid (Owns w14 (.l (dropQ a L)) [.slice Ah m ch] (rng (w13.heap.size) w14.heap.size)) := Lib.hid (hO.mono (fun b h1 => ⟨by have h2 := h1.1; (try rw [World.size_alloc] at h2); exact h2, h1.2⟩))
    clear hO
    clear hb
    clear Hv
    go_wp2_with fail
    refine (eqQuestionS (dropQ a L) Ah Aw m m ch cw _ Hh.out.lies Hw.out.lies htD (by omega)).mono ?_
    rintro e w15 ⟨rfl, hb⟩
    replace Hw := Lib.hid (Hw.out.below hb)
    replace Hg := Lib.hid (Hg.out.below hb)
    replace Hh := Lib.hid (Hh.out.below hb)
    replace HT := Lib.hid (HT.out.trans (hb.mono HT.out.size))
    have hsw15 : w14.heap.size ≤ w15.heap.size := by have h1 := hb.size; (try rw [World.size_alloc] at h1); exact h1
    clear hb
    go_wp2_with fail
    refine (heldQuestionS (dropQ a L) Ag m cg 1 _ Hg.out.lies htD (by omega) (by omega) (by omega)).mono ?_
    rintro e w16 ⟨rfl, hb⟩
    replace Hw := Lib.hid (Hw.out.below hb)
    replace Hg := Lib.hid (Hg.out.below hb)
    replace Hh := Lib.hid (Hh.out.below hb)
    replace HT := Lib.hid (HT.out.trans (hb.mono HT.out.size))
    have hsw16 : w15.heap.size ≤ w16.heap.size := by have h1 := hb.size; (try rw [World.size_alloc] at h1); exact h1
    clear hb
    go_wp2_with fail
    go_ret
    exact GivesBool.ret HT.out
end Go.Proofs.Ytdedioghljkflaa
