/- The exact law of MadeBy. -/
import Derived.Test.YtgibhbplgiejpaaMadeS
import Derived.Test.YtgibhbplgiejpaaMarkT
import Derived.Deep.RegionHeld3
namespace Go.Proofs.Ytgibhbplgiejpaa
open Go.RowKit
set_option linter.unusedVariables false
set_option linter.unusedSimpArgs false
theorem count_bulk8 {L : List Dat} {n : Nat} (h : L.length = n) (hq : (Dat.l L).bulk ≤ 1048576) : n ≤ 1048576 := by
  simp only [Dat.bulk] at hq
  omega
theorem specMadeV (f0 : ByteArray) (M : List Dat) (A : Option Addr) (n c : Nat) (D : List ByteArray) (w : World) (h : Lies w (.l M) [.slice A n c]) (ht : ∀ x ∈ M, Has tyMethod x) (hq : (Dat.r [.s f0, .l M]).bulk ≤ 1099511627776) (hD : madeL M = D) :
    Calls Try.prog 18 #[.agg #[.string f0, .slice A n c]] w (GivesNames D w) := by subst hD; exact specMade f0 M A n c w h ht hq
theorem implMadeV (f0 : ByteArray) (M : List Dat) (A : Option Addr) (n c : Nat) (D : List ByteArray) (w : World) (h : Lies w (.l M) [.slice A n c]) (ht : ∀ x ∈ M, Has tyMethod x) (hq : (Dat.r [.s f0, .l M]).bulk ≤ 1099511627776) (hD : madeL M = D) :
    Calls Try.prog 20 #[.agg #[.string f0, .slice A n c]] w (GivesNames D w) := by subst hD; exact implMade f0 M A n c w h ht hq
theorem made_len (M : List Dat) (h : (Dat.l M).bulk ≤ 1048576) : (madeL M).length ≤ 1048576 := by
  have h1 := once_len (namesM M) []
  have h2 := namesM_len M
  have h3 : (madeL M).length = (onceL [] (namesM M)).length := rfl
  simp only [Dat.bulk] at h
  simp only [List.length_nil] at h1
  omega
set_option maxRecDepth 100000 in
set_option maxHeartbeats 8000000 in
theorem law_MadeBD (f0 : ByteArray) (L0 : List Dat) (A0 : Option Addr) (n0 c0 : Nat) (D : List ByteArray) (W : World) (hl0 : Lies W (.l L0) [.slice A0 n0 c0]) (ht0 : ∀ x ∈ L0, Has tyMethod x) (hf0 : f0.size ≤ 9223372036854775807) (hn0 : n0 ≤ 9223372036854775807) (hD : madeL L0 = D) (hDl : (Dat.l L0).bulk ≤ 1048576 → D.length ≤ 1048576) :
    Calls Try.prog 6 #[.agg #[.string f0, .slice A0 n0 c0]] W (GivesBool true W) := by
  have HT := Lib.hid (Below.refl W.heap.size W)
  have Z0 := Lib.hid hl0
  have hc0 := Lib.hid hl0.count
  have HD := Lib.hid hD
  have HDL := Lib.hid hDl
  clear hl0 hD hDl
  have Ba := Lib.hid (Box.new W #[.string f0, .slice A0 n0 c0] 38)
  have ha : Below W.heap.size W (W.alloc (.cells #[.string f0, .slice A0 n0 c0] 38)) := (Below.refl _ _).alloc (Nat.le_refl _) _
  replace HT := Lib.hid (HT.out.trans (ha.mono HT.out.size))
  clear ha
  rcases leftD_cases (Dat.r [.s f0, .l L0]) 1048576 with hbig | ⟨r0, hr0, hr00, hr10, hb0⟩
  case inl =>
    have HBIG := Lib.hid hbig
    clear hbig
    go_enter Try.func6, Try.ntmps6
    obtain ⟨za0, za1⟩ := And.intro (Ba.out.2 0 _ rfl) (Ba.out.2 1 _ rfl)
    go_wp2_with fail
    refine (szScript f0 L0 A0 n0 c0 1048576 _ (by omega) (by omega) hf0 (Z0.out.below HT.out) ht0 hn0).mono ?_
    rintro e w1 ⟨rfl, hb⟩
    rw [HBIG.out]
    replace Ba := Lib.hid (Ba.out.below hb)
    replace HT := Lib.hid (HT.out.trans (hb.mono HT.out.size))
    have hsw1 : W.heap.size + 1 ≤ w1.heap.size := by have h1 := hb.size; (try rw [World.size_alloc] at h1); exact h1
    clear hb
    go_wp2_with fail
    go_ret
    exact GivesBool.ret HT.out
  case inr =>
    have HR := Lib.hid hr0
    clear hr0
    have hq0 : (Dat.l L0).bulk ≤ 1099511627776 := by simp only [Dat.bulk, bulkAll] at hb0 ⊢; omega
    have hqr0 : (Dat.r [.s f0, .l L0]).bulk ≤ 1099511627776 := by omega
    have hqm : (Dat.l L0).bulk ≤ 1048576 := by simp only [Dat.bulk, bulkAll] at hb0 ⊢; omega
    have hn1 : n0 ≤ 1048576 := count_bulk8 hc0.out hqm
    have hk0 : cntAll L0 ≤ 6 * 1048576 := cnt_few (t := tyMethod) (by decide) ht0 hqm
    have hdl : D.length ≤ 1048576 := HDL.out hqm
    go_enter Try.func6, Try.ntmps6
    obtain ⟨za0, za1⟩ := And.intro (Ba.out.2 0 _ rfl) (Ba.out.2 1 _ rfl)
    go_wp2_with fail
    refine (szScript f0 L0 A0 n0 c0 1048576 _ (by omega) (by omega) hf0 (Z0.out.below HT.out) ht0 hn0).mono ?_
    rintro e w1 ⟨rfl, hb⟩
    rw [HR.out]
    replace Ba := Lib.hid (Ba.out.below hb)
    replace HT := Lib.hid (HT.out.trans (hb.mono HT.out.size))
    have hsw1 : W.heap.size + 1 ≤ w1.heap.size := by have h1 := hb.size; (try rw [World.size_alloc] at h1); exact h1
    clear hb
    clear za0 za1
    obtain ⟨za0, za1⟩ := And.intro (Ba.out.2 0 _ rfl) (Ba.out.2 1 _ rfl)
    go_wp2_with fail
    refine (toScript f0 L0 A0 n0 c0 _ (Z0.out.below HT.out) ht0 hq0).mono ?_
    rintro e w2 ⟨At, ct, rfl, hO, hb⟩
    replace Ba := Lib.hid (Ba.out.below hb)
    replace HT := Lib.hid (HT.out.trans (hb.mono HT.out.size))
    have hsw2 : w1.heap.size ≤ w2.heap.size := by have h1 := hb.size; (try rw [World.size_alloc] at h1); exact h1
    have Ht : Hid (Owns w2 (.l L0) [.slice At n0 ct] (rng (w1.heap.size) w2.heap.size)) := Lib.hid (hO.mono (fun b h1 => ⟨by have h2 := h1.1; (try rw [World.size_alloc] at h2); exact h2, h1.2⟩))
    clear hO
    clear hb
    clear za0 za1
    go_wp2_with fail
    refine (specMadeV f0 L0 At n0 ct D _ Ht.out.lies ht0 hqr0 HD.out).mono ?_
    rintro e w3 ⟨Ar, nr, cr, rfl, hO, hb⟩
    replace Ht := Lib.hid (Ht.out.below hb)
    replace Ba := Lib.hid (Ba.out.below hb)
    replace HT := Lib.hid (HT.out.trans (hb.mono HT.out.size))
    have hsw3 : w2.heap.size ≤ w3.heap.size := by have h1 := hb.size; (try rw [World.size_alloc] at h1); exact h1
    have Hr : Hid (Owns w3 (.l (D.map Dat.s)) [.slice Ar nr cr] (rng (w2.heap.size) w3.heap.size)) := Lib.hid (hO.mono (fun b h1 => ⟨by have h2 := h1.1; (try rw [World.size_alloc] at h2); exact h2, h1.2⟩))
    clear hO
    clear hb
    clear Ht
    have hnr : nr ≤ 1048576 := by rw [← strs_len Hr.out.lies]; exact hdl
    have hcr := Lib.hid (strs_len Hr.out.lies)
    obtain ⟨za0, za1⟩ := And.intro (Ba.out.2 0 _ rfl) (Ba.out.2 1 _ rfl)
    go_wp2_with fail
    refine (toScript f0 L0 A0 n0 c0 _ (Z0.out.below HT.out) ht0 hq0).mono ?_
    rintro e w4 ⟨Ax, cx, rfl, hO, hb⟩
    replace Hr := Lib.hid (Hr.out.below hb)
    replace Ba := Lib.hid (Ba.out.below hb)
    replace HT := Lib.hid (HT.out.trans (hb.mono HT.out.size))
    have hsw4 : w3.heap.size ≤ w4.heap.size := by have h1 := hb.size; (try rw [World.size_alloc] at h1); exact h1
    have Hx : Hid (Owns w4 (.l L0) [.slice Ax n0 cx] (rng (w3.heap.size) w4.heap.size)) := Lib.hid (hO.mono (fun b h1 => ⟨by have h2 := h1.1; (try rw [World.size_alloc] at h2); exact h2, h1.2⟩))
    clear hO
    clear hb
    clear za0 za1
    have Bx := Lib.hid (Box.new w4 #[.string f0, .slice Ax n0 cx] 44)
    have ha : Below w4.heap.size w4 (w4.alloc (.cells #[.string f0, .slice Ax n0 cx] 44)) := (Below.refl _ _).alloc (Nat.le_refl _) _
    replace Hr := Lib.hid (Hr.out.below ha)
    replace Hx := Lib.hid (Hx.out.below ha)
    replace Ba := Lib.hid (Ba.out.below ha)
    replace HT := Lib.hid (HT.out.trans (ha.mono HT.out.size))
    clear ha
    obtain ⟨zx0, zx1⟩ := And.intro (Bx.out.2 0 _ rfl) (Bx.out.2 1 _ rfl)
    go_wp2_with fail
    refine (implMadeV f0 L0 Ax n0 cx D _ Hx.out.lies ht0 hqr0 HD.out).mono ?_
    rintro e w5 ⟨Ag, ng, cg, rfl, hO, hb⟩
    replace Hr := Lib.hid (Hr.out.below hb)
    replace Hx := Lib.hid (Hx.out.below hb)
    replace Ba := Lib.hid (Ba.out.below hb)
    replace Bx := Lib.hid (Bx.out.below hb)
    replace HT := Lib.hid (HT.out.trans (hb.mono HT.out.size))
    have hsw5 : w4.heap.size + 1 ≤ w5.heap.size := by have h1 := hb.size; (try rw [World.size_alloc] at h1); exact h1
    have Hg : Hid (Owns w5 (.l (D.map Dat.s)) [.slice Ag ng cg] (rng (w4.heap.size + 1) w5.heap.size)) := Lib.hid (hO.mono (fun b h1 => ⟨by have h2 := h1.1; (try rw [World.size_alloc] at h2); exact h2, h1.2⟩))
    clear hO
    clear hb
    clear zx0 zx1
    obtain rfl : nr = ng := by rw [← strs_len Hg.out.lies, ← hcr.out]
    go_wp2_with fail
    refine (eqStrS D Ag Ar nr nr cg cr _ Hg.out.lies Hr.out.lies (by omega)).mono ?_
    rintro e w6 ⟨rfl, hb⟩
    replace Hr := Lib.hid (Hr.out.below hb)
    replace Hx := Lib.hid (Hx.out.below hb)
    replace Hg := Lib.hid (Hg.out.below hb)
    replace Ba := Lib.hid (Ba.out.below hb)
    replace Bx := Lib.hid (Bx.out.below hb)
    replace HT := Lib.hid (HT.out.trans (hb.mono HT.out.size))
    have hsw6 : w5.heap.size ≤ w6.heap.size := by have h1 := hb.size; (try rw [World.size_alloc] at h1); exact h1
    clear hb
    obtain ⟨zx0, zx1⟩ := And.intro (Bx.out.2 0 _ rfl) (Bx.out.2 1 _ rfl)
    obtain ⟨za0, za1⟩ := And.intro (Ba.out.2 0 _ rfl) (Ba.out.2 1 _ rfl)
    go_wp2_with fail
    replace Hr := Lib.hid (Hr.out.below (Below.refl _ _).drew)
    replace Hx := Lib.hid (Hx.out.below (Below.refl _ _).drew)
    replace Hg := Lib.hid (Hg.out.below (Below.refl _ _).drew)
    replace Ba := Lib.hid (Ba.out.below (Below.refl _ _).drew)
    replace Bx := Lib.hid (Bx.out.below (Below.refl _ _).drew)
    replace HT := Lib.hid (HT.out.trans ((Below.refl _ _).drew.mono HT.out.size))
    go_region_held3 (fun w' => w'.cell? ⟨w4.heap.size, 0, none⟩ = some (.string f0) ∧ w'.cell? ⟨w4.heap.size, 1, none⟩ = some (.slice Ax n0 cx) ∧ w'.cell? ⟨W.heap.size, 0, none⟩ = some (.string f0) ∧ w'.cell? ⟨W.heap.size, 1, none⟩ = some (.slice A0 n0 c0))
      (first | with_reducible exact ⟨Bx.out.cells2.1, Bx.out.cells2.2, Ba.out.cells2.1, Ba.out.cells2.2⟩ | go_keep)
      (first
      | (go_at_call 19; (with_reducible refine (toScript f0 L0 A0 n0 c0 _ (Z0.out.below HT.out) ht0 hq0).mono ?_); rintro e u0 ⟨Au, cu, rfl, hO, hb5⟩; (replace Hr := Lib.hid (Hr.out.below hb5)); (replace Hx := Lib.hid (Hx.out.below hb5)); (replace Hg := Lib.hid (Hg.out.below hb5)); (replace Ba := Lib.hid (Ba.out.below hb5)); (replace Bx := Lib.hid (Bx.out.below hb5)); (replace HT := Lib.hid (HT.out.trans (hb5.mono HT.out.size))); (have hsu0 : w6.heap.size ≤ u0.heap.size := by have h1 := hb5.size; (try rw [World.size_alloc] at h1); exact h1); (have Hu : Hid (Owns u0 (.l L0) [.slice Au n0 cu] (rng (w6.heap.size) u0.heap.size)) := Lib.hid (hO.mono (fun b h1 => ⟨by have h2 := h1.1; (try rw [World.size_alloc] at h2); exact h2, h1.2⟩))); (clear hO hb5))
      | (go_at_call 22; (with_reducible refine (eqScript f0 L0 Ax n0 cx Au cu _ Hx.out.lies Hu.out.lies ht0 hn0).mono ?_); rintro e u1 ⟨rfl, hb5⟩; (replace Hr := Lib.hid (Hr.out.below hb5)); (replace Hx := Lib.hid (Hx.out.below hb5)); (replace Hg := Lib.hid (Hg.out.below hb5)); (replace Hu := Lib.hid (Hu.out.below hb5)); (replace Ba := Lib.hid (Ba.out.below hb5)); (replace Bx := Lib.hid (Bx.out.below hb5)); (replace HT := Lib.hid (HT.out.trans (hb5.mono HT.out.size))); (have hsu1 : u0.heap.size ≤ u1.heap.size := by have h1 := hb5.size; (try rw [World.size_alloc] at h1); exact h1); (clear hb5)))
    all_goals (
      clear zx0 zx1
      clear za0 za1
      clear Hu
      obtain ⟨zx0, zx1⟩ := And.intro (Bx.out.2 0 _ rfl) (Bx.out.2 1 _ rfl)
      go_wp2_with fail
      refine (markScript f0 L0 Ax n0 cx 1 (w3.heap.size) (w4.heap.size) _ Hx.out ht0 (by omega) (by omega) (by omega)).mono ?_
      rintro e w7 ⟨rfl, hO, hb⟩
      replace Hr := Lib.hid (Hr.out.touch hb (rng_apart (by omega)))
      replace Hg := Lib.hid (Hg.out.touch hb (rng_apart (by omega)))
      replace Ba := Lib.hid (Ba.out.touch hb (rng_out (by omega)))
      replace Bx := Lib.hid (Bx.out.touch hb (rng_out (by omega)))
      replace HT := Lib.hid (hb.low HT.out (by omega))
      have hsw7 : u1.heap.size ≤ w7.heap.size := hb.size
      replace Hx := Lib.hid hO
      clear hO hb
      clear zx0 zx1
      clear Hx
      have hk1 : (0 : Int) ≤ 1 + cntAll L0 := by omega
      go_wp2_with fail
      refine (eqStrS D Ag Ar nr nr cg cr _ Hg.out.lies Hr.out.lies (by omega)).mono ?_
      rintro e w8 ⟨rfl, hb⟩
      replace Hr := Lib.hid (Hr.out.below hb)
      replace Hg := Lib.hid (Hg.out.below hb)
      replace Ba := Lib.hid (Ba.out.below hb)
      replace Bx := Lib.hid (Bx.out.below hb)
      replace HT := Lib.hid (HT.out.trans (hb.mono HT.out.size))
      have hsw8 : w7.heap.size ≤ w8.heap.size := by have h1 := hb.size; (try rw [World.size_alloc] at h1); exact h1
      clear hb
      go_wp2_with fail
      refine (markStrS D Ag nr cg 1 (rng (w4.heap.size + 1) (w5.heap.size)) _ Hg.out (by omega) (by omega) (by omega)).mono ?_
      rintro e w9 ⟨rfl, hO, hb⟩
      replace Hr := Lib.hid (Hr.out.touch hb (rng_apart (by omega)))
      replace Ba := Lib.hid (Ba.out.touch hb (rng_out (by omega)))
      replace Bx := Lib.hid (Bx.out.touch hb (rng_out (by omega)))
      replace HT := Lib.hid (hb.low HT.out (by omega))
      have hsw9 : w8.heap.size ≤ w9.heap.size := hb.size
      replace Hg := Lib.hid hO
      clear hO hb
      have hk2 : (0 : Int) ≤ 1 + (nr : Int) := by omega
      go_wp2_with fail
      refine (heldStrS Ag nr cg 1 _ Hg.out.lies (by omega) (by omega) (by omega)).mono ?_
      rintro e w10 ⟨rfl, hb⟩
      replace Hr := Lib.hid (Hr.out.below hb)
      replace Hg := Lib.hid (Hg.out.below hb)
      replace Ba := Lib.hid (Ba.out.below hb)
      replace Bx := Lib.hid (Bx.out.below hb)
      replace HT := Lib.hid (HT.out.trans (hb.mono HT.out.size))
      have hsw10 : w9.heap.size ≤ w10.heap.size := by have h1 := hb.size; (try rw [World.size_alloc] at h1); exact h1
      clear hb
      obtain ⟨za0, za1⟩ := And.intro (Ba.out.2 0 _ rfl) (Ba.out.2 1 _ rfl)
      go_wp2_with fail
      refine (toScript f0 L0 A0 n0 c0 _ (Z0.out.below HT.out) ht0 hq0).mono ?_
      rintro e w11 ⟨Av, cv, rfl, hO, hb⟩
      replace Hr := Lib.hid (Hr.out.below hb)
      replace Hg := Lib.hid (Hg.out.below hb)
      replace Ba := Lib.hid (Ba.out.below hb)
      replace Bx := Lib.hid (Bx.out.below hb)
      replace HT := Lib.hid (HT.out.trans (hb.mono HT.out.size))
      have hsw11 : w10.heap.size ≤ w11.heap.size := by have h1 := hb.size; (try rw [World.size_alloc] at h1); exact h1
      have Hv : Hid (Owns w11 (.l L0) [.slice Av n0 cv] (rng (w10.heap.size) w11.heap.size)) := Lib.hid (hO.mono (fun b h1 => ⟨by have h2 := h1.1; (try rw [World.size_alloc] at h2); exact h2, h1.2⟩))
      clear hO
      clear hb
      clear za0 za1
      go_wp2_with fail
      refine (implMadeV f0 L0 Av n0 cv D _ Hv.out.lies ht0 hqr0 HD.out).mono ?_
      rintro e w12 ⟨Ah, nh, ch, rfl, hO, hb⟩
      replace Hr := Lib.hid (Hr.out.below hb)
      replace Hg := Lib.hid (Hg.out.below hb)
      replace Hv := Lib.hid (Hv.out.below hb)
      replace Ba := Lib.hid (Ba.out.below hb)
      replace Bx := Lib.hid (Bx.out.below hb)
      replace HT := Lib.hid (HT.out.trans (hb.mono HT.out.size))
      have hsw12 : w11.heap.size ≤ w12.heap.size := by have h1 := hb.size; (try rw [World.size_alloc] at h1); exact h1
      have Hh : Hid (Owns w12 (.l (D.map Dat.s)) [.slice Ah nh ch] (rng (w11.heap.size) w12.heap.size)) := Lib.hid (hO.mono (fun b h1 => ⟨by have h2 := h1.1; (try rw [World.size_alloc] at h2); exact h2, h1.2⟩))
      clear hO
      clear hb
      obtain rfl : nr = nh := by rw [← strs_len Hh.out.lies, ← hcr.out]
      clear Hv
      go_wp2_with fail
      refine (eqStrS D Ah Ar nr nr ch cr _ Hh.out.lies Hr.out.lies (by omega)).mono ?_
      rintro e w13 ⟨rfl, hb⟩
      replace Hr := Lib.hid (Hr.out.below hb)
      replace Hg := Lib.hid (Hg.out.below hb)
      replace Hh := Lib.hid (Hh.out.below hb)
      replace Ba := Lib.hid (Ba.out.below hb)
      replace Bx := Lib.hid (Bx.out.below hb)
      replace HT := Lib.hid (HT.out.trans (hb.mono HT.out.size))
      have hsw13 : w12.heap.size ≤ w13.heap.size := by have h1 := hb.size; (try rw [World.size_alloc] at h1); exact h1
      clear hb
      go_wp2_with fail
      refine (heldStrS Ag nr cg 1 _ Hg.out.lies (by omega) (by omega) (by omega)).mono ?_
      rintro e w14 ⟨rfl, hb⟩
      replace Hr := Lib.hid (Hr.out.below hb)
      replace Hg := Lib.hid (Hg.out.below hb)
      replace Hh := Lib.hid (Hh.out.below hb)
      replace Ba := Lib.hid (Ba.out.below hb)
      replace Bx := Lib.hid (Bx.out.below hb)
      replace HT := Lib.hid (HT.out.trans (hb.mono HT.out.size))
      have hsw14 : w13.heap.size ≤ w14.heap.size := by have h1 := hb.size; (try rw [World.size_alloc] at h1); exact h1
      clear hb
      go_wp2_with fail
      go_ret
      exact GivesBool.ret HT.out)
theorem law_MadeBy (f0 : ByteArray) (L0 : List Dat) (A0 : Option Addr) (n0 c0 : Nat) (W : World) (hl0 : Lies W (.l L0) [.slice A0 n0 c0]) (ht0 : ∀ x ∈ L0, Has tyMethod x) (hf0 : f0.size ≤ 9223372036854775807) (hn0 : n0 ≤ 9223372036854775807) :
    Calls Try.prog 6 #[.agg #[.string f0, .slice A0 n0 c0]] W (GivesBool true W) := law_MadeBD f0 L0 A0 n0 c0 _ W hl0 ht0 hf0 hn0 rfl (made_len L0)
end Go.Proofs.Ytgibhbplgiejpaa
