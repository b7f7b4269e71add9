/- The exact law of MethodOf. -/
import Derived.Test.YtaepconmjmcbdaaLawD
import Derived.Test.YtaepconmjmcbdaaEqS
import Derived.Test.YtaepconmjmcbdaaMarkN
import Derived.Test.YtaepconmjmcbdaaMarkV
import Derived.Test.YtaepconmjmcbdaaMOR
namespace Go.Proofs.Ytaepconmjmcbdaa
open Go.RowKit
set_option linter.unusedVariables false
set_option linter.unusedSimpArgs false
theorem count_bulk2 {L : List Dat} {n : Nat} (h : L.length = n) (hq : (Dat.l L).bulk ≤ 1048576) : n ≤ 1048576 := by
  simp only [Dat.bulk] at hq
  omega
theorem methOf_cases (L : List Dat) (i : Int) (nm : ByteArray) : methOf L i nm = noMO ∨ ∃ s m, s ∈ L ∧ m ∈ codeOf s ∧ methOf L i nm = ⟨nameOf m, codeOf m, true⟩ := by
  unfold methOf
  split
  · split
    · rename_i s hs
      unfold pick
      split
      · rename_i m hm
        split
        · exact Or.inr ⟨s, m, List.mem_of_getElem? hs, List.mem_of_getElem? hm, rfl⟩
        · exact Or.inl rfl
      · exact Or.inl rfl
    · exact Or.inl rfl
  · exact Or.inl rfl
theorem code_scr {s : Dat} (h : Has tyScript s) : ∀ x ∈ codeOf s, Has tyMethod x := by
  simp only [tyScript, Has, HasAll] at h
  obtain ⟨ds, rfl, d0, r0, rfl, ⟨f0, rfl, hf0⟩, d1, r1, rfl, ⟨L1, rfl, hm1, ht1⟩, rfl⟩ := h
  exact ht1
theorem code_meth {s : Dat} (h : Has tyMethod s) : ∀ x ∈ codeOf s, Has tyInstr x := by
  simp only [tyMethod, Has, HasAll] at h
  obtain ⟨ds, rfl, d0, r0, rfl, ⟨f0, rfl, hf0⟩, d1, r1, rfl, ⟨L1, rfl, hm1, ht1⟩, rfl⟩ := h
  exact ht1
theorem codeOf_bulk (s : Dat) : (Dat.l (codeOf s)).bulk ≤ s.bulk := by
  unfold codeOf
  split
  · simp only [Dat.bulk, bulkAll]; omega
  · simp [Dat.bulk, bulkAll]
theorem methOf_has {L : List Dat} (h : ∀ x ∈ L, Has tyScript x) (i : Int) (nm : ByteArray) : ∀ x ∈ (methOf L i nm).code, Has tyInstr x := by
  rcases methOf_cases L i nm with e | ⟨s, m, hs, hm, e⟩
  · rw [e]; intro x hx; cases hx
  · rw [e]; exact code_meth (code_scr (h s hs) m hm)
theorem methOf_bulk (L : List Dat) (i : Int) (nm : ByteArray) : (Dat.l (methOf L i nm).code).bulk ≤ (Dat.l L).bulk := by
  rcases methOf_cases L i nm with e | ⟨s, m, hs, hm, e⟩
  · rw [e]; simp [noMO, Dat.bulk, bulkAll]
  · rw [e]
    have h1 := codeOf_bulk m
    have h2 := bulk_mem hm
    have h3 := codeOf_bulk s
    have h4 := bulk_mem hs
    simp only [Dat.bulk] at h1 h3 ⊢
    omega
theorem specMOV (L : List Dat) (A : Option Addr) (n c : Nat) (i : Int) (nm : ByteArray) (R : MO) (w : World) (h : Lies w (.l L) [.slice A n c]) (ht : ∀ x ∈ L, Has tyScript x) (hq : (Dat.l L).bulk ≤ 1099511627776) (hR : methOf L i nm = R) :
    Calls Try.prog 14 #[.slice A n c, .int .i64 i, .string nm] w (GivesMO R w) := by subst hR; exact specMO L A n c i nm w h ht hq
theorem implMOV (L : List Dat) (A : Option Addr) (n c : Nat) (i : Int) (nm : ByteArray) (R : MO) (w : World) (h : Lies w (.l L) [.slice A n c]) (ht : ∀ x ∈ L, Has tyScript x) (hq : (Dat.l L).bulk ≤ 1099511627776) (hR : methOf L i nm = R) :
    Calls Try.prog 13 #[.slice A n c, .int .i64 i, .string nm] w (GivesMO R w) := by subst hR; exact implMO L A n c i nm w h ht hq
set_option maxRecDepth 100000 in
set_option maxHeartbeats 8000000 in
theorem law_MethodOf (L0 : List Dat) (A0 : Option Addr) (n0 c0 : Nat) (a1 : Int) (s2 : ByteArray) (W : World) (hl0 : Lies W (.l L0) [.slice A0 n0 c0]) (ht0 : ∀ x ∈ L0, Has tyScript x) (hn0 : n0 ≤ 9223372036854775807) (hs2 : s2.size ≤ 9223372036854775807) :
    Calls Try.prog 8 #[.slice A0 n0 c0, .int .i64 a1, .string s2] W (GivesBool true W) := by
  have HT := Lib.hid (Below.refl W.heap.size W)
  have Z0 := Lib.hid hl0
  have hc0 := Lib.hid hl0.count
  clear hl0
  by_cases hz2 : s2.size ≤ 1048576
  case neg =>
    go_enter Try.func8, Try.ntmps8
    go_wp2_with fail
    go_ret
    exact GivesBool.ret HT.out
  case pos =>
    rcases leftD_cases (Dat.l L0) 1048576 with hbig | ⟨r0, hr0, hr00, hr10, hb0⟩
    case inl =>
      have HBIG := Lib.hid hbig
      clear hbig
      go_enter Try.func8, Try.ntmps8
      go_wp2_with fail
      refine (szScriptS L0 A0 n0 c0 1048576 _ (by omega) (by omega) (Z0.out.below HT.out) ht0 hn0).mono ?_
      rintro e w1 ⟨rfl, hb⟩
      rw [HBIG.out]
      replace HT := Lib.hid (HT.out.trans (hb.mono HT.out.size))
      have hsw1 : W.heap.size ≤ w1.heap.size := by have h1 := hb.size; (try rw [World.size_alloc] at h1); exact h1
      clear hb
      go_wp2_with fail
      go_ret
      exact GivesBool.ret HT.out
    case inr =>
      have HR := Lib.hid hr0
      clear hr0
      have hq0 : (Dat.l L0).bulk ≤ 1099511627776 := by omega
      have hn1 : n0 ≤ 1048576 := count_bulk2 hc0.out (by omega)
      have hk0 : cntAll L0 ≤ 6 * 1048576 := cnt_few (t := tyScript) (by decide) ht0 (by omega)
      obtain ⟨R, hR⟩ : ∃ R, methOf L0 a1 s2 = R := ⟨_, rfl⟩
      have hRt : ∀ x ∈ R.code, Has tyInstr x := by rw [← hR]; exact methOf_has ht0 a1 s2
      have hRb : (Dat.l R.code).bulk ≤ 1048576 := by have h1 := methOf_bulk L0 a1 s2; rw [hR] at h1; omega
      have hRk : cntAll R.code ≤ 6 * 1048576 := cnt_few (t := tyInstr) (by decide) hRt hRb
      have HRR := Lib.hid hR
      clear hR
      go_enter Try.func8, Try.ntmps8
      go_wp2_with fail
      refine (szScriptS L0 A0 n0 c0 1048576 _ (by omega) (by omega) (Z0.out.below HT.out) ht0 hn0).mono ?_
      rintro e w2 ⟨rfl, hb⟩
      rw [HR.out]
      replace HT := Lib.hid (HT.out.trans (hb.mono HT.out.size))
      have hsw2 : W.heap.size ≤ w2.heap.size := by have h1 := hb.size; (try rw [World.size_alloc] at h1); exact h1
      clear hb
      go_wp2_with fail
      refine (toScriptS L0 A0 n0 c0 _ (Z0.out.below HT.out) ht0 hq0).mono ?_
      rintro e w3 ⟨At, nt, ct, rfl, hO, hb⟩
      replace HT := Lib.hid (HT.out.trans (hb.mono HT.out.size))
      have hsw3 : w2.heap.size ≤ w3.heap.size := by have h1 := hb.size; (try rw [World.size_alloc] at h1); exact h1
      have Ht : Hid (Owns w3 (.l L0) [.slice At nt ct] (rng (w2.heap.size) w3.heap.size)) := Lib.hid (hO.mono (fun b h1 => ⟨by have h2 := h1.1; (try rw [World.size_alloc] at h2); exact h2, h1.2⟩))
      clear hO
      clear hb
      obtain rfl : n0 = nt := by rw [← Ht.out.lies.count, ← hc0.out]
      go_wp2_with fail
      refine (specMOV L0 At n0 ct a1 s2 R _ Ht.out.lies ht0 hq0 HRR.out).mono ?_
      rintro e w4 ⟨Ar, nr, cr, rfl, hO, hb⟩
      replace Ht := Lib.hid (Ht.out.below hb)
      replace HT := Lib.hid (HT.out.trans (hb.mono HT.out.size))
      have hsw4 : w3.heap.size ≤ w4.heap.size := by have h1 := hb.size; (try rw [World.size_alloc] at h1); exact h1
      have Hr : Hid (Owns w4 (.l R.code) [.slice Ar nr cr] (rng (w3.heap.size) w4.heap.size)) := Lib.hid (hO.mono (fun b h1 => ⟨by have h2 := h1.1; (try rw [World.size_alloc] at h2); exact h2, h1.2⟩))
      clear hO
      clear hb
      clear Ht
      have hnr : nr ≤ 1048576 := count_bulk2 Hr.out.lies.count hRb
      have hcr := Lib.hid Hr.out.lies.count
      have Br := Lib.hid (Box.new w4 #[.string R.name, .slice Ar nr cr] 29)
      have ha : Below w4.heap.size w4 (w4.alloc (.cells #[.string R.name, .slice Ar nr cr] 29)) := (Below.refl _ _).alloc (Nat.le_refl _) _
      replace Hr := Lib.hid (Hr.out.below ha)
      replace HT := Lib.hid (HT.out.trans (ha.mono HT.out.size))
      clear ha
      go_wp2_with fail
      refine (toScriptS L0 A0 n0 c0 _ (Z0.out.below HT.out) ht0 hq0).mono ?_
      rintro e w5 ⟨Ax, nx, cx, rfl, hO, hb⟩
      replace Hr := Lib.hid (Hr.out.below hb)
      replace Br := Lib.hid (Br.out.below hb)
      replace HT := Lib.hid (HT.out.trans (hb.mono HT.out.size))
      have hsw5 : w4.heap.size + 1 ≤ w5.heap.size := by have h1 := hb.size; (try rw [World.size_alloc] at h1); exact h1
      have Hx : Hid (Owns w5 (.l L0) [.slice Ax nx cx] (rng (w4.heap.size + 1) w5.heap.size)) := Lib.hid (hO.mono (fun b h1 => ⟨by have h2 := h1.1; (try rw [World.size_alloc] at h2); exact h2, h1.2⟩))
      clear hO
      clear hb
      obtain rfl : n0 = nx := by rw [← Hx.out.lies.count, ← hc0.out]
      go_wp2_with fail
      refine (implMOV L0 Ax n0 cx a1 s2 R _ Hx.out.lies ht0 hq0 HRR.out).mono ?_
      rintro e w6 ⟨Ag, ng, cg, rfl, hO, hb⟩
      replace Hr := Lib.hid (Hr.out.below hb)
      replace Hx := Lib.hid (Hx.out.below hb)
      replace Br := Lib.hid (Br.out.below hb)
      replace HT := Lib.hid (HT.out.trans (hb.mono HT.out.size))
      have hsw6 : w5.heap.size ≤ w6.heap.size := by have h1 := hb.size; (try rw [World.size_alloc] at h1); exact h1
      have Hg : Hid (Owns w6 (.l R.code) [.slice Ag ng cg] (rng (w5.heap.size) w6.heap.size)) := Lib.hid (hO.mono (fun b h1 => ⟨by have h2 := h1.1; (try rw [World.size_alloc] at h2); exact h2, h1.2⟩))
      clear hO
      clear hb
      obtain rfl : nr = ng := by rw [← Hg.out.lies.count, ← hcr.out]
      have Bg := Lib.hid (Box.new w6 #[.string R.name, .slice Ag nr cg] 29)
      have ha : Below w6.heap.size w6 (w6.alloc (.cells #[.string R.name, .slice Ag nr cg] 29)) := (Below.refl _ _).alloc (Nat.le_refl _) _
      replace Hr := Lib.hid (Hr.out.below ha)
      replace Hx := Lib.hid (Hx.out.below ha)
      replace Hg := Lib.hid (Hg.out.below ha)
      replace Br := Lib.hid (Br.out.below ha)
      replace HT := Lib.hid (HT.out.trans (ha.mono HT.out.size))
      clear ha
      obtain ⟨zg0, zg1⟩ := And.intro (Bg.out.2 0 _ rfl) (Bg.out.2 1 _ rfl)
      obtain ⟨zr0, zr1⟩ := And.intro (Br.out.2 0 _ rfl) (Br.out.2 1 _ rfl)
      go_wp2_with fail
      refine (eqMethod R.name R.code Ag nr cg Ar cr _ Hg.out.lies Hr.out.lies hRt (by omega)).mono ?_
      rintro e w7 ⟨rfl, hb⟩
      replace Hr := Lib.hid (Hr.out.below hb)
      replace Hx := Lib.hid (Hx.out.below hb)
      replace Hg := Lib.hid (Hg.out.below hb)
      replace Br := Lib.hid (Br.out.below hb)
      replace Bg := Lib.hid (Bg.out.below hb)
      replace HT := Lib.hid (HT.out.trans (hb.mono HT.out.size))
      have hsw7 : w6.heap.size + 1 ≤ w7.heap.size := by have h1 := hb.size; (try rw [World.size_alloc] at h1); exact h1
      clear hb
      clear zg0 zg1
      clear zr0 zr1
      go_wp2_with fail
      refine (toScriptS L0 A0 n0 c0 _ (Z0.out.below HT.out) ht0 hq0).mono ?_
      rintro e w8 ⟨Au, nu, cu, rfl, hO, hb⟩
      replace Hr := Lib.hid (Hr.out.below hb)
      replace Hx := Lib.hid (Hx.out.below hb)
      replace Hg := Lib.hid (Hg.out.below hb)
      replace Br := Lib.hid (Br.out.below hb)
      replace Bg := Lib.hid (Bg.out.below hb)
      replace HT := Lib.hid (HT.out.trans (hb.mono HT.out.size))
      have hsw8 : w7.heap.size ≤ w8.heap.size := by have h1 := hb.size; (try rw [World.size_alloc] at h1); exact h1
      have Hu : Hid (Owns w8 (.l L0) [.slice Au nu cu] (rng (w7.heap.size) w8.heap.size)) := Lib.hid (hO.mono (fun b h1 => ⟨by have h2 := h1.1; (try rw [World.size_alloc] at h2); exact h2, h1.2⟩))
      clear hO
      clear hb
      obtain rfl : n0 = nu := by rw [← Hu.out.lies.count, ← hc0.out]
      go_wp2_with fail
      refine (eqScriptS L0 Ax Au n0 n0 cx cu _ Hx.out.lies Hu.out.lies ht0 hn0).mono ?_
      rintro e w9 ⟨rfl, hb⟩
      replace Hr := Lib.hid (Hr.out.below hb)
      replace Hx := Lib.hid (Hx.out.below hb)
      replace Hg := Lib.hid (Hg.out.below hb)
      replace Hu := Lib.hid (Hu.out.below hb)
      replace Br := Lib.hid (Br.out.below hb)
      replace Bg := Lib.hid (Bg.out.below hb)
      replace HT := Lib.hid (HT.out.trans (hb.mono HT.out.size))
      have hsw9 : w8.heap.size ≤ w9.heap.size := by have h1 := hb.size; (try rw [World.size_alloc] at h1); exact h1
      clear hb
      clear Hu
      go_wp2_with fail
      refine (markScriptS L0 Ax n0 cx 1 (rng (w4.heap.size + 1) (w5.heap.size)) _ Hx.out ht0 (by omega) (by omega) (by omega)).mono ?_
      rintro e w10 ⟨rfl, hO, hb⟩
      replace Hr := Lib.hid (Hr.out.touch hb (rng_apart (by omega)))
      replace Hg := Lib.hid (Hg.out.touch hb (rng_apart (by omega)))
      replace Br := Lib.hid (Br.out.touch hb (rng_out (by omega)))
      replace Bg := Lib.hid (Bg.out.touch hb (rng_out (by omega)))
      replace HT := Lib.hid (hb.low HT.out (by omega))
      have hsw10 : w9.heap.size ≤ w10.heap.size := hb.size
      replace Hx := Lib.hid hO
      clear hO hb
      clear Hx
      have hk1 : (0 : Int) ≤ 1 + cntAll L0 := by omega
      obtain ⟨zg0, zg1⟩ := And.intro (Bg.out.2 0 _ rfl) (Bg.out.2 1 _ rfl)
      obtain ⟨zr0, zr1⟩ := And.intro (Br.out.2 0 _ rfl) (Br.out.2 1 _ rfl)
      go_wp2_with fail
      refine (eqMethod R.name R.code Ag nr cg Ar cr _ Hg.out.lies Hr.out.lies hRt (by omega)).mono ?_
      rintro e w11 ⟨rfl, hb⟩
      replace Hr := Lib.hid (Hr.out.below hb)
      replace Hg := Lib.hid (Hg.out.below hb)
      replace Br := Lib.hid (Br.out.below hb)
      replace Bg := Lib.hid (Bg.out.below hb)
      replace HT := Lib.hid (HT.out.trans (hb.mono HT.out.size))
      have hsw11 : w10.heap.size ≤ w11.heap.size := by have h1 := hb.size; (try rw [World.size_alloc] at h1); exact h1
      clear hb
      clear zg0 zg1
      clear zr0 zr1
      obtain ⟨zg0, zg1⟩ := And.intro (Bg.out.2 0 _ rfl) (Bg.out.2 1 _ rfl)
      go_wp2_with fail
      refine (markMethod R.name R.code Ag nr cg 1 (w5.heap.size) (w6.heap.size) _ Hg.out hRt (by omega) (by omega) (by omega)).mono ?_
      rintro e w12 ⟨rfl, hO, hb⟩
      replace Hr := Lib.hid (Hr.out.touch hb (rng_apart (by omega)))
      replace Br := Lib.hid (Br.out.touch hb (rng_out (by omega)))
      replace Bg := Lib.hid (Bg.out.touch hb (rng_out (by omega)))
      replace HT := Lib.hid (hb.low HT.out (by omega))
      have hsw12 : w11.heap.size ≤ w12.heap.size := hb.size
      replace Hg := Lib.hid hO
      clear hO hb
      clear zg0 zg1
      have hk2 : (0 : Int) ≤ 1 + cntAll R.code := by omega
      obtain ⟨zg0, zg1⟩ := And.intro (Bg.out.2 0 _ rfl) (Bg.out.2 1 _ rfl)
      go_wp2_with fail
      refine (heldMethod R.name R.code Ag nr cg 1 _ Hg.out.lies hRt (by omega) (by omega) (by omega)).mono ?_
      rintro e w13 ⟨rfl, hb⟩
      replace Hr := Lib.hid (Hr.out.below hb)
      replace Hg := Lib.hid (Hg.out.below hb)
      replace Br := Lib.hid (Br.out.below hb)
      replace Bg := Lib.hid (Bg.out.below hb)
      replace HT := Lib.hid (HT.out.trans (hb.mono HT.out.size))
      have hsw13 : w12.heap.size ≤ w13.heap.size := by have h1 := hb.size; (try rw [World.size_alloc] at h1); exact h1
      clear hb
      clear zg0 zg1
      go_wp2_with fail
      refine (toScriptS L0 A0 n0 c0 _ (Z0.out.below HT.out) ht0 hq0).mono ?_
      rintro e w14 ⟨Av, nv, cv, rfl, hO, hb⟩
      replace Hr := Lib.hid (Hr.out.below hb)
      replace Hg := Lib.hid (Hg.out.below hb)
      replace Br := Lib.hid (Br.out.below hb)
      replace Bg := Lib.hid (Bg.out.below hb)
      replace HT := Lib.hid (HT.out.trans (hb.mono HT.out.size))
      have hsw14 : w13.heap.size ≤ w14.heap.size := by have h1 := hb.size; (try rw [World.size_alloc] at h1); exact h1
      have Hv : Hid (Owns w14 (.l L0) [.slice Av nv cv] (rng (w13.heap.size) w14.heap.size)) := Lib.hid (hO.mono (fun b h1 => ⟨by have h2 := h1.1; (try rw [World.size_alloc] at h2); exact h2, h1.2⟩))
      clear hO
      clear hb
      obtain rfl : n0 = nv := by rw [← Hv.out.lies.count, ← hc0.out]
      go_wp2_with fail
      refine (implMOV L0 Av n0 cv a1 s2 R _ Hv.out.lies ht0 hq0 HRR.out).mono ?_
      rintro e w15 ⟨Ah, nh, ch, rfl, hO, hb⟩
      replace Hr := Lib.hid (Hr.out.below hb)
      replace Hg := Lib.hid (Hg.out.below hb)
      replace Hv := Lib.hid (Hv.out.below hb)
      replace Br := Lib.hid (Br.out.below hb)
      replace Bg := Lib.hid (Bg.out.below hb)
      replace HT := Lib.hid (HT.out.trans (hb.mono HT.out.size))
      have hsw15 : w14.heap.size ≤ w15.heap.size := by have h1 := hb.size; (try rw [World.size_alloc] at h1); exact h1
      have Hh : Hid (Owns w15 (.l R.code) [.slice Ah nh ch] (rng (w14.heap.size) w15.heap.size)) := Lib.hid (hO.mono (fun b h1 => ⟨by have h2 := h1.1; (try rw [World.size_alloc] at h2); exact h2, h1.2⟩))
      clear hO
      clear hb
      obtain rfl : nr = nh := by rw [← Hh.out.lies.count, ← hcr.out]
      clear Hv
      have Bh := Lib.hid (Box.new w15 #[.string R.name, .slice Ah nr ch] 29)
      have ha : Below w15.heap.size w15 (w15.alloc (.cells #[.string R.name, .slice Ah nr ch] 29)) := (Below.refl _ _).alloc (Nat.le_refl _) _
      replace Hr := Lib.hid (Hr.out.below ha)
      replace Hg := Lib.hid (Hg.out.below ha)
      replace Hh := Lib.hid (Hh.out.below ha)
      replace Br := Lib.hid (Br.out.below ha)
      replace Bg := Lib.hid (Bg.out.below ha)
      replace HT := Lib.hid (HT.out.trans (ha.mono HT.out.size))
      clear ha
      obtain ⟨zh0, zh1⟩ := And.intro (Bh.out.2 0 _ rfl) (Bh.out.2 1 _ rfl)
      obtain ⟨zr0, zr1⟩ := And.intro (Br.out.2 0 _ rfl) (Br.out.2 1 _ rfl)
      go_wp2_with fail
      refine (eqMethod R.name R.code Ah nr ch Ar cr _ Hh.out.lies Hr.out.lies hRt (by omega)).mono ?_
      rintro e w16 ⟨rfl, hb⟩
      replace Hr := Lib.hid (Hr.out.below hb)
      replace Hg := Lib.hid (Hg.out.below hb)
      replace Hh := Lib.hid (Hh.out.below hb)
      replace Br := Lib.hid (Br.out.below hb)
      replace Bg := Lib.hid (Bg.out.below hb)
      replace Bh := Lib.hid (Bh.out.below hb)
      replace HT := Lib.hid (HT.out.trans (hb.mono HT.out.size))
      have hsw16 : w15.heap.size + 1 ≤ w16.heap.size := by have h1 := hb.size; (try rw [World.size_alloc] at h1); exact h1
      clear hb
      clear zh0 zh1
      clear zr0 zr1
      obtain ⟨zg0, zg1⟩ := And.intro (Bg.out.2 0 _ rfl) (Bg.out.2 1 _ rfl)
      go_wp2_with fail
      refine (heldMethod R.name R.code Ag nr cg 1 _ Hg.out.lies hRt (by omega) (by omega) (by omega)).mono ?_
      rintro e w17 ⟨rfl, hb⟩
      replace Hr := Lib.hid (Hr.out.below hb)
      replace Hg := Lib.hid (Hg.out.below hb)
      replace Hh := Lib.hid (Hh.out.below hb)
      replace Br := Lib.hid (Br.out.below hb)
      replace Bg := Lib.hid (Bg.out.below hb)
      replace Bh := Lib.hid (Bh.out.below hb)
      replace HT := Lib.hid (HT.out.trans (hb.mono HT.out.size))
      have hsw17 : w16.heap.size ≤ w17.heap.size := by have h1 := hb.size; (try rw [World.size_alloc] at h1); exact h1
      clear hb
      clear zg0 zg1
      go_wp2_with fail
      go_ret
      exact GivesBool.ret HT.out
end Go.Proofs.Ytaepconmjmcbdaa
