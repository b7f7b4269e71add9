/- Chapter 11: the reference's DecodeMessage. -/
import Derived.Test.YtchofnligbgigaaDecG
import Derived.Test.YtchofnligbgigaaIsMS
import Derived.Test.YtchofnligbgigaaLawM0
import Derived.Deep.RegionHeld3
import Derived.Deep.RegionLaw
import Derived.Deep.CutRange
import Derived.LoopTactic
import Derived.Lib.Hide
import Derived.Deep.QuietTactic
import Derived.BigQuiet
import Derived.Deep.RegionWith
import Derived.Handy
namespace Go.Proofs.Ytchofnligbgigaa
open Go.RowKit
set_option linter.unusedVariables false
set_option linter.unusedSimpArgs false
theorem Rz.open_ {k : IntKind} {w : World} {A : Option Addr} {n : Nat} {zs : List Int} (h : Rz k w A n zs) (hn : 0 < n) : ∃ b off, A = some ⟨b, off, none⟩ ∧ b < w.heap.size ∧ ∀ (j : Nat), j < n → w.cell? ⟨b, off + j, none⟩ = some (.int k (at0 zs j)) := by
  have hl := h.1
  rcases h.2 with h2 | ⟨b, off, e, hb, hc⟩
  · have : zs = [] := by simpa using h2
    subst this
    simp at hl
    omega
  · exact ⟨b, off, e, hb, fun j hj => hc j _ (by rw [List.getElem?_map, at0_some (by omega)]; rfl)⟩
theorem at0_nat {l : List Int} {k J : Nat} (h : (at0 l k).toNat = J) (h0 : 0 ≤ at0 l k) : at0 l k = (J : Int) := by omega
theorem bytesOf_size (zs : List Int) : (bytesOf zs).size = zs.length := by
  show (Array.size _) = _
  simp [bytesOf]
set_option maxRecDepth 100000 in
set_option maxHeartbeats 16000000 in
theorem specDecM (A : Option Addr) (n c : Nat) (zs : List Int) (w : World) (h : Rz .u8 w A n zs) (hcap : n ≤ c) (hby : Byt zs) (hn : n ≤ 549755813888) :
    Calls Try.prog 32 #[.slice A n c] w (GivesDM (decM zs) w) := by
  have hln := h.1
  have HLN := Lib.hid hln
  have H := Lib.hid h
  have HBY := Lib.hid hby
  have Zr : Hid (Zx w.heap.size [.int .i64 0, .int .i64 0, .int .i64 0, .int .i64 0, .string ⟨#[]⟩, .slice none 0 0, .int .i64 0, .int .i64 0, .int .i64 0, .int .i64 0, .int .i64 0, .int .i64 0] (w.alloc (.cells #[.int .i64 0, .int .i64 0, .int .i64 0, .int .i64 0, .string ⟨#[]⟩, .slice none 0 0, .int .i64 0, .int .i64 0, .int .i64 0, .int .i64 0, .int .i64 0, .int .i64 0] 30))) := Lib.hid (Zx.new w #[.int .i64 0, .int .i64 0, .int .i64 0, .int .i64 0, .string ⟨#[]⟩, .slice none 0 0, .int .i64 0, .int .i64 0, .int .i64 0, .int .i64 0, .int .i64 0, .int .i64 0] 30)
  have HB : Hid (Below w.heap.size w (w.alloc (.cells #[.int .i64 0, .int .i64 0, .int .i64 0, .int .i64 0, .string ⟨#[]⟩, .slice none 0 0, .int .i64 0, .int .i64 0, .int .i64 0, .int .i64 0, .int .i64 0, .int .i64 0] 30))) := Lib.hid ((Below.refl _ _).alloc (Nat.le_refl _) _)
  clear h
  have C1 : decL zs 0 11 = decGo zs 11 0 := decL_in (zs := zs) (o := 0) (c := 11) (by omega) (Nat.zero_le _)
  rcases hD1 : decGo zs 11 0 with _ | ⟨l, o1⟩
  · have HD0 := Lib.hid (decM_no (numsR_no hD1))
    have CALL1 : Hid (∀ (wx : World), Below w.heap.size w wx → Calls Try.prog 65 #[.slice A n c, .int .i64 0, .int .i64 11] wx (FreshT .i64 3 [] 0 false wx)) := Lib.hid (fun wx hbx => by
      have k := specDecL A n c zs 0 11 wx (H.out.below hbx) HBY.out hn (by omega) (by omega) (by omega) (by omega)
      rw [C1, hD1] at k
      exact k)
    clear hD1 C1 hln hby
    go_enter Try.func32, Try.ntmps32
    go_wp2_with fail
    refine (CALL1.out _ HB.out).mono ?_
    rintro e w1 ⟨A1, n1, c1, rfl, hO1, hb⟩
    clear hO1
    replace Zr := Lib.hid (Zr.out.below hb)
    replace HB : Hid (Below w.heap.size w w1) := Lib.hid (HB.out.trans (hb.mono HB.out.size))
    clear hb
    obtain ⟨z0, z1, z2, z3, z4, z5, z6, z7, z8, z9, z10, z11, fz⟩ := Zr.out.c12
    go_wp2_with (
      with_reducible refine bodyPost_ret (v := .tuple #[.agg #[.int .i64 0, .int .i64 0, .int .i64 0, .int .i64 0, .string ⟨#[]⟩, .slice none 0 0, .int .i64 0, .int .i64 0, .int .i64 0, .int .i64 0, .int .i64 0, .int .i64 0], .bool false]) ?hres rfl ?hpost
      case hres =>
        refine results_box2 rfl _ _ (w.heap.size) [.int .i64 0, .int .i64 0, .int .i64 0, .int .i64 0, .string ⟨#[]⟩, .slice none 0 0, .int .i64 0, .int .i64 0, .int .i64 0, .int .i64 0, .int .i64 0, .int .i64 0] (.bool false) _ rfl rfl ?_ Try.underlying30 rfl (by kernel_rfl)
        refine Zx.box ?_
        repeat (first | with_reducible exact Zr.out | with_reducible refine Zx.drewB ?_ | with_reducible apply Zx.put12)
      case hpost =>
        suffices h9 : ∀ w' : World, Touch (fun b => b = w.heap.size) w1 w' → GivesDM (decM zs) w (.returned (.tuple #[.agg #[.int .i64 0, .int .i64 0, .int .i64 0, .int .i64 0, .string ⟨#[]⟩, .slice none 0 0, .int .i64 0, .int .i64 0, .int .i64 0, .int .i64 0, .int .i64 0, .int .i64 0], .bool false])) w' from h9 _ (by repeat (first | with_reducible exact Touch.refl _ _ | with_reducible refine Touch.drew ?_ | with_reducible refine Touch.put12 ?_ (Eq.refl _)))
        intro w' hT9
        rw [HD0.out]; exact GivesDM.zero (HB.out.trans (hT9.below (fun x h => by omega) HB.out.size)))
  · obtain ⟨e1, rfl, -, he1n, hl11, hlz, -⟩ := decGo_spec hby 11 0 l o1 (Nat.zero_le _) hD1
    have CALL1 : Hid (∀ (wx : World), Below w.heap.size w wx → Calls Try.prog 65 #[.slice A n c, .int .i64 0, .int .i64 11] wx (FreshT .i64 3 l (e1 : Int) true wx)) := Lib.hid (fun wx hbx => by
      have k := specDecL A n c zs 0 11 wx (H.out.below hbx) HBY.out hn (by omega) (by omega) (by omega) (by omega)
      rw [C1, hD1] at k
      exact k)
    have h10 := hlz (at0 l 10) (List.mem_of_getElem? (at0_some (by omega)))
    obtain ⟨J, hJ⟩ : ∃ J, (at0 l 10).toNat = J := ⟨_, rfl⟩
    have hJ0 := at0_nat hJ h10.1
    have HJ0 := Lib.hid hJ0
    by_cases hv : 2 < at0 l 10
    · have HD0 := Lib.hid (decM_no (numsR_many hD1 hv))
      have hJ2 : (2 : Int) < (J : Int) := by omega
      have HL11 := Lib.hid hl11
      clear hD1 C1 hln hby hv h10 hJ hJ0 hlz hl11
      go_enter Try.func32, Try.ntmps32
      go_wp2_with fail
      refine (CALL1.out _ HB.out).mono ?_
      rintro e w1 ⟨A1, n1, c1, rfl, hO1, hb⟩
      have hn11 : n1 = 11 := by rw [← hO1.1, HL11.out]
      obtain ⟨b1, off1, rfl, hb1, hc1⟩ := hO1.rz.open_ (by omega)
      have r10 := hc1 10 (by omega)
      rw [HJ0.out] at r10
      have hx10 : (10 : Int) < (n1 : Int) := by omega
      have HN11 := Lib.hid hn11
      clear hO1 hc1 hn11
      replace Zr := Lib.hid (Zr.out.below hb)
      replace HB : Hid (Below w.heap.size w w1) := Lib.hid (HB.out.trans (hb.mono HB.out.size))
      clear hb
      obtain ⟨z0, z1, z2, z3, z4, z5, z6, z7, z8, z9, z10, z11, fz⟩ := Zr.out.c12
      go_wp2_with (
        with_reducible refine bodyPost_ret (v := .tuple #[.agg #[.int .i64 0, .int .i64 0, .int .i64 0, .int .i64 0, .string ⟨#[]⟩, .slice none 0 0, .int .i64 0, .int .i64 0, .int .i64 0, .int .i64 0, .int .i64 0, .int .i64 0], .bool false]) ?hres rfl ?hpost
        case hres =>
          refine results_box2 rfl _ _ (w.heap.size) [.int .i64 0, .int .i64 0, .int .i64 0, .int .i64 0, .string ⟨#[]⟩, .slice none 0 0, .int .i64 0, .int .i64 0, .int .i64 0, .int .i64 0, .int .i64 0, .int .i64 0] (.bool false) _ rfl rfl ?_ Try.underlying30 rfl (by kernel_rfl)
          refine Zx.box ?_
          repeat (first | with_reducible exact Zr.out | with_reducible refine Zx.drewB ?_ | with_reducible apply Zx.put12)
        case hpost =>
          suffices h9 : ∀ w' : World, Touch (fun b => b = w.heap.size) w1 w' → GivesDM (decM zs) w (.returned (.tuple #[.agg #[.int .i64 0, .int .i64 0, .int .i64 0, .int .i64 0, .string ⟨#[]⟩, .slice none 0 0, .int .i64 0, .int .i64 0, .int .i64 0, .int .i64 0, .int .i64 0, .int .i64 0], .bool false])) w' from h9 _ (by repeat (first | with_reducible exact Touch.refl _ _ | with_reducible refine Touch.drew ?_ | with_reducible refine Touch.put12 ?_ (Eq.refl _)))
          intro w' hT9
          rw [HD0.out]; exact GivesDM.zero (HB.out.trans (hT9.below (fun x h => by omega) HB.out.size)))
    · have hJ2 : J ≤ 2 := by omega
      have hJ3 : ¬ (2 : Int) < (J : Int) := by omega
      have hnR := numsR_few hD1 hv
      rw [hJ] at hnR
      have C2 : decL zs (e1 : Int) (2 * (J : Int)) = decGo zs (2 * J) (e1 : Int) := by
        have := decL_in (zs := zs) (o := e1) (c := 2 * J) (by omega) he1n
        rw [← this]; congr 1
      have HL11 := Lib.hid hl11
      have HNR := Lib.hid hnR
      have HLZ := Lib.hid hlz
      have hen : e1 ≤ n := by omega
      obtain ⟨a0, ha0⟩ : ∃ a, at0 l 0 = a := ⟨_, rfl⟩
      have HA0 := Lib.hid ha0
      obtain ⟨a1, ha1⟩ : ∃ a, at0 l 1 = a := ⟨_, rfl⟩
      have HA1 := Lib.hid ha1
      obtain ⟨a2, ha2⟩ : ∃ a, at0 l 2 = a := ⟨_, rfl⟩
      have HA2 := Lib.hid ha2
      obtain ⟨a3, ha3⟩ : ∃ a, at0 l 3 = a := ⟨_, rfl⟩
      have HA3 := Lib.hid ha3
      obtain ⟨a4, ha4⟩ : ∃ a, at0 l 4 = a := ⟨_, rfl⟩
      have HA4 := Lib.hid ha4
      obtain ⟨a5, ha5⟩ : ∃ a, at0 l 5 = a := ⟨_, rfl⟩
      have HA5 := Lib.hid ha5
      obtain ⟨a6, ha6⟩ : ∃ a, at0 l 6 = a := ⟨_, rfl⟩
      have HA6 := Lib.hid ha6
      obtain ⟨a7, ha7⟩ : ∃ a, at0 l 7 = a := ⟨_, rfl⟩
      have HA7 := Lib.hid ha7
      obtain ⟨a8, ha8⟩ : ∃ a, at0 l 8 = a := ⟨_, rfl⟩
      have HA8 := Lib.hid ha8
      obtain ⟨a9, ha9⟩ : ∃ a, at0 l 9 = a := ⟨_, rfl⟩
      have HA9 := Lib.hid ha9
      clear hD1 C1 hv h10 hJ hJ0 hlz hl11 hnR ha0 ha1 ha2 ha3 ha4 ha5 ha6 ha7 ha8 ha9
      go_enter Try.func32, Try.ntmps32
      go_wp2_with fail
      refine (CALL1.out _ HB.out).mono ?_
      rintro e w1 ⟨A1, n1, c1, rfl, hO1, hb⟩
      have hn11 : n1 = 11 := by rw [← hO1.1, HL11.out]
      obtain ⟨b1, off1, rfl, hb1, hc1⟩ := hO1.rz.open_ (by omega)
      have KK : Hid (∀ wx : World, Below w1.heap.size w1 wx → wx.cell? ⟨b1, off1, none⟩ = some (.int .i64 a0) ∧ wx.cell? ⟨b1, off1 + 1, none⟩ = some (.int .i64 a1) ∧ wx.cell? ⟨b1, off1 + 2, none⟩ = some (.int .i64 a2) ∧ wx.cell? ⟨b1, off1 + 3, none⟩ = some (.int .i64 a3) ∧ wx.cell? ⟨b1, off1 + 4, none⟩ = some (.int .i64 a4) ∧ wx.cell? ⟨b1, off1 + 5, none⟩ = some (.int .i64 a5) ∧ wx.cell? ⟨b1, off1 + 6, none⟩ = some (.int .i64 a6) ∧ wx.cell? ⟨b1, off1 + 7, none⟩ = some (.int .i64 a7) ∧ wx.cell? ⟨b1, off1 + 8, none⟩ = some (.int .i64 a8) ∧ wx.cell? ⟨b1, off1 + 9, none⟩ = some (.int .i64 a9)) := Lib.hid (fun wx hbx => ⟨by rw [← HA0.out]; exact (hbx.cell (p := ⟨b1, off1 + 0, none⟩) hb1).trans (hc1 0 (by omega)), by rw [← HA1.out]; exact (hbx.cell (p := ⟨b1, off1 + 1, none⟩) hb1).trans (hc1 1 (by omega)), by rw [← HA2.out]; exact (hbx.cell (p := ⟨b1, off1 + 2, none⟩) hb1).trans (hc1 2 (by omega)), by rw [← HA3.out]; exact (hbx.cell (p := ⟨b1, off1 + 3, none⟩) hb1).trans (hc1 3 (by omega)), by rw [← HA4.out]; exact (hbx.cell (p := ⟨b1, off1 + 4, none⟩) hb1).trans (hc1 4 (by omega)), by rw [← HA5.out]; exact (hbx.cell (p := ⟨b1, off1 + 5, none⟩) hb1).trans (hc1 5 (by omega)), by rw [← HA6.out]; exact (hbx.cell (p := ⟨b1, off1 + 6, none⟩) hb1).trans (hc1 6 (by omega)), by rw [← HA7.out]; exact (hbx.cell (p := ⟨b1, off1 + 7, none⟩) hb1).trans (hc1 7 (by omega)), by rw [← HA8.out]; exact (hbx.cell (p := ⟨b1, off1 + 8, none⟩) hb1).trans (hc1 8 (by omega)), by rw [← HA9.out]; exact (hbx.cell (p := ⟨b1, off1 + 9, none⟩) hb1).trans (hc1 9 (by omega))⟩)
      have K10 : Hid (w1.cell? ⟨b1, off1 + 10, none⟩ = some (.int .i64 (J : Int))) := Lib.hid (by rw [← HJ0.out]; exact hc1 10 (by omega))
      have r10 := K10.out
      have hx0 : (0 : Int) < (n1 : Int) := by omega
      have hx1 : (1 : Int) < (n1 : Int) := by omega
      have hx2 : (2 : Int) < (n1 : Int) := by omega
      have hx3 : (3 : Int) < (n1 : Int) := by omega
      have hx4 : (4 : Int) < (n1 : Int) := by omega
      have hx5 : (5 : Int) < (n1 : Int) := by omega
      have hx6 : (6 : Int) < (n1 : Int) := by omega
      have hx7 : (7 : Int) < (n1 : Int) := by omega
      have hx8 : (8 : Int) < (n1 : Int) := by omega
      have hx9 : (9 : Int) < (n1 : Int) := by omega
      have hx10 : (10 : Int) < (n1 : Int) := by omega
      have hx00 : 0 < n1 := by omega
      have HN11 := Lib.hid hn11
      have hb1w := hb1
      clear hO1 hc1 hn11
      replace Zr := Lib.hid (Zr.out.below hb)
      replace HB : Hid (Below w.heap.size w w1) := Lib.hid (HB.out.trans (hb.mono HB.out.size))
      clear hb
      have hsz1 := Zr.out.lt
      go_upto_region 4 with (fail)
      go_cut [7] from 30 to 62 (fun s7 wx => s7 = .pointer (some ⟨w1.heap.size, 0, none⟩) ∧ Zx w.heap.size [.int .i64 0, .int .i64 0, .int .i64 0, .int .i64 0, .string ⟨#[]⟩, .slice none 0 0, .int .i64 0, .int .i64 0, .int .i64 0, .int .i64 0, .int .i64 0, .int .i64 0] wx ∧ Zx w1.heap.size [.int .i64 a0, .int .i64 a1, .int .i64 a2, .int .i64 a3, .string ⟨#[]⟩, .slice none 0 0, .int .i64 a8, .int .i64 a9, .int .i64 a4, .int .i64 a5, .int .i64 a6, .int .i64 a7] wx ∧ Below w1.heap.size w1 wx)
      case first =>
        obtain ⟨r0, r1, r2, r3, r4, r5, r6, r7, r8, r9⟩ := KK.out _ (Below.refl _ _)
        go_region_held3 (fun w' => w'.cell? ⟨b1, off1, none⟩ = some (.int .i64 a0) ∧ w'.cell? ⟨b1, off1 + 1, none⟩ = some (.int .i64 a1) ∧ w'.cell? ⟨b1, off1 + 2, none⟩ = some (.int .i64 a2) ∧ w'.cell? ⟨b1, off1 + 3, none⟩ = some (.int .i64 a3) ∧ w'.cell? ⟨b1, off1 + 4, none⟩ = some (.int .i64 a4) ∧ w'.cell? ⟨b1, off1 + 5, none⟩ = some (.int .i64 a5) ∧ w'.cell? ⟨b1, off1 + 6, none⟩ = some (.int .i64 a6) ∧ w'.cell? ⟨b1, off1 + 7, none⟩ = some (.int .i64 a7) ∧ w'.cell? ⟨b1, off1 + 8, none⟩ = some (.int .i64 a8) ∧ w'.cell? ⟨b1, off1 + 9, none⟩ = some (.int .i64 a9))
          (first | exact KK.out _ (Below.refl _ _) | exact KK.out _ (Below.refl _ _).drew | exact KK.out _ ((Below.refl _ _).alloc (Nat.le_refl _) _) | exact KK.out _ ((Below.refl _ _).alloc (Nat.le_refl _) _).drew | exact KK.out _ ((Below.refl _ _).drew.alloc (Nat.le_refl _) _) | go_keep)
          (first | fail)
        all_goals (
          go_wp2_with fail
          go_meet
          refine ⟨rfl, ?_, ?_, ?_⟩
          · first | exact Zr.out.below ((Below.refl _ _).alloc (Nat.le_refl _) _).drew | exact Zr.out.below ((Below.refl _ _).drew.alloc (Nat.le_refl _) _) | exact Zr.out.below ((Below.refl _ _).alloc (Nat.le_refl _) _)
          · first | exact (Zx.newAt _ _ rfl #[.int .i64 a0, .int .i64 a1, .int .i64 a2, .int .i64 a3, .string ⟨#[]⟩, .slice none 0 0, .int .i64 a8, .int .i64 a9, .int .i64 a4, .int .i64 a5, .int .i64 a6, .int .i64 a7] 30).drewB | exact Zx.newAt _ _ rfl #[.int .i64 a0, .int .i64 a1, .int .i64 a2, .int .i64 a3, .string ⟨#[]⟩, .slice none 0 0, .int .i64 a8, .int .i64 a9, .int .i64 a4, .int .i64 a5, .int .i64 a6, .int .i64 a7] 30
          · first | exact ((Below.refl _ _).alloc (Nat.le_refl _) _).drew | exact (Below.refl _ _).drew.alloc (Nat.le_refl _) _ | exact (Below.refl _ _).alloc (Nat.le_refl _) _)
      case rest =>
        obtain ⟨rfl, hZr, hZm, hbc⟩ := hcut
        clear Zr r10
        have Zr := Lib.hid hZr
        have Zm := Lib.hid hZm
        have hszc := hZm.lt
        have K10c : Hid (wc.cell? ⟨b1, off1 + 10, none⟩ = some (.int .i64 (J : Int))) := Lib.hid ((hbc.cell (p := ⟨b1, off1 + 10, none⟩) hb1w).trans K10.out)
        replace HB : Hid (Below w.heap.size w wc) := Lib.hid (HB.out.trans (hbc.mono HB.out.size))
        have hsw1 : w1.heap.size ≤ wc.heap.size := hbc.size
        clear hZr hZm hbc
        have r10 := K10c.out
        have hwJ : IntKind.i64.wrap (2 * (J : Int)) = 2 * (J : Int) := IntWalk.i64_in _ (by omega)
        rcases hD2 : decGo zs (2 * J) (e1 : Int) with _ | ⟨l2, o2⟩
        · have HD0 : Hid (decM zs = none) := Lib.hid (decM_no (by rw [HNR.out, hD2]; rfl))
          have CALL2 : Hid (∀ (wx : World), Below w.heap.size w wx → Calls Try.prog 65 #[.slice A n c, .int .i64 (e1 : Int), .int .i64 (2 * (J : Int))] wx (FreshT .i64 3 [] 0 false wx)) := Lib.hid (fun wx hbx => by
            have k := specDecL A n c zs (e1 : Int) (2 * (J : Int)) wx (H.out.below hbx) HBY.out hn (by omega) (by omega) (by omega) (by omega)
            rw [C2, hD2] at k
            exact k)
          clear hD2 C2 hln hby
          go_wp2_with fail
          refine (CALL2.out _ HB.out).mono ?_
          rintro e w2 ⟨A2, n2, c2, rfl, hO2, hb⟩
          clear hO2 r10
          replace Zr := Lib.hid (Zr.out.below hb)
          replace Zm := Lib.hid (Zm.out.below hb)
          replace HB : Hid (Below w.heap.size w w2) := Lib.hid (HB.out.trans (hb.mono HB.out.size))
          clear hb
          obtain ⟨z0, z1, z2, z3, z4, z5, z6, z7, z8, z9, z10, z11, fz⟩ := Zr.out.c12
          go_wp2_with (
            with_reducible refine bodyPost_ret (v := .tuple #[.agg #[.int .i64 0, .int .i64 0, .int .i64 0, .int .i64 0, .string ⟨#[]⟩, .slice none 0 0, .int .i64 0, .int .i64 0, .int .i64 0, .int .i64 0, .int .i64 0, .int .i64 0], .bool false]) ?hres rfl ?hpost
            case hres =>
              refine results_box2 rfl _ _ (w.heap.size) [.int .i64 0, .int .i64 0, .int .i64 0, .int .i64 0, .string ⟨#[]⟩, .slice none 0 0, .int .i64 0, .int .i64 0, .int .i64 0, .int .i64 0, .int .i64 0, .int .i64 0] (.bool false) _ rfl rfl ?_ Try.underlying30 rfl (by kernel_rfl)
              refine Zx.box ?_
              repeat (first | with_reducible exact Zr.out | with_reducible refine Zx.drewB ?_ | with_reducible apply Zx.put12)
            case hpost =>
              suffices h9 : ∀ w' : World, Touch (fun b => b = w.heap.size) w2 w' → GivesDM (decM zs) w (.returned (.tuple #[.agg #[.int .i64 0, .int .i64 0, .int .i64 0, .int .i64 0, .string ⟨#[]⟩, .slice none 0 0, .int .i64 0, .int .i64 0, .int .i64 0, .int .i64 0, .int .i64 0, .int .i64 0], .bool false])) w' from h9 _ (by repeat (first | with_reducible exact Touch.refl _ _ | with_reducible refine Touch.drew ?_ | with_reducible refine Touch.put12 ?_ (Eq.refl _)))
              intro w' hT9
              rw [HD0.out]; exact GivesDM.zero (HB.out.trans (hT9.below (fun x h => by omega) HB.out.size)))
        · obtain ⟨e2, rfl, -, he2n, hl2J, hl2z, -⟩ := decGo_spec hby (2 * J) e1 l2 o2 he1n hD2
          have hNS : numsR zs = some (l ++ l2, (e2 : Int)) := by rw [HNR.out, hD2]; rfl
          have HNS := Lib.hid hNS
          have CALL2 : Hid (∀ (wx : World), Below w.heap.size w wx → Calls Try.prog 65 #[.slice A n c, .int .i64 (e1 : Int), .int .i64 (2 * (J : Int))] wx (FreshT .i64 3 l2 (e2 : Int) true wx)) := Lib.hid (fun wx hbx => by
            have k := specDecL A n c zs (e1 : Int) (2 * (J : Int)) wx (H.out.below hbx) HBY.out hn (by omega) (by omega) (by omega) (by omega)
            rw [C2, hD2] at k
            exact k)
          have HL2J := Lib.hid hl2J
          have he2n' : e2 ≤ n := by omega
          obtain ⟨L, hL⟩ : ∃ L, wiresL l2 = L := ⟨_, rfl⟩
          have HLEQ := Lib.hid hL
          have HLL : Hid (L.take J = L) := Lib.hid (List.take_of_length_le (by rw [← hL, wiresL_len l2 J hl2J]; exact Nat.le_refl _))
          have HAT : Hid (∀ j, j < J → L[j]? = some (.r [.i (at0 l2 (2 * j)), .i (at0 l2 (2 * j + 1))])) := Lib.hid (fun j hj => by
            rw [← hL]; exact wiresL_at l2 j (by omega))
          have HTW : Hid (∀ d ∈ L, Has tyWire d) := Lib.hid (by rw [← hL]; exact wiresL_has l2 hl2z)
          clear hD2 C2 hNS hl2J hl2z hL
          go_wp2_with fail
          refine (CALL2.out _ HB.out).mono ?_
          rintro e w2 ⟨A2, n2, c2, rfl, hO2, hb⟩
          have hn2 : n2 = 2 * J := by rw [← hO2.1, HL2J.out]
          have HN2 := Lib.hid hn2
          have hn2b : n2 ≤ 4 := by omega
          have O2 := Lib.hid hO2
          have hs2 := hb.size
          have K10w : Hid (w2.cell? ⟨b1, off1 + 10, none⟩ = some (.int .i64 (J : Int))) := Lib.hid ((hb.cell (p := ⟨b1, off1 + 10, none⟩) (by show b1 < wc.heap.size; omega)).trans K10c.out)
          clear hO2 r10 hn2
          replace Zr := Lib.hid (Zr.out.below hb)
          replace Zm := Lib.hid (Zm.out.below hb)
          replace HB : Hid (Below w.heap.size w w2) := Lib.hid (HB.out.trans (hb.mono HB.out.size))
          clear hb
          obtain ⟨i0, hi, hz0, hz1, hz2⟩ := info_parts infoWire
          go_wp2_with fail
          go_loopw [11] (fun iv wr => ∃ (j : Nat) (A5 : Option Addr) (c5 : Nat), iv = .int .i64 (j : Int) ∧ j ≤ J ∧ Zx w.heap.size [.int .i64 0, .int .i64 0, .int .i64 0, .int .i64 0, .string ⟨#[]⟩, .slice none 0 0, .int .i64 0, .int .i64 0, .int .i64 0, .int .i64 0, .int .i64 0, .int .i64 0] wr ∧ Zx w1.heap.size [.int .i64 a0, .int .i64 a1, .int .i64 a2, .int .i64 a3, .string ⟨#[]⟩, .slice A5 j c5, .int .i64 a8, .int .i64 a9, .int .i64 a4, .int .i64 a5, .int .i64 a6, .int .i64 a7] wr ∧ Grow 26 2 w2.heap.size wr A5 j c5 (L.take j) (fun _ => False) ∧ Below w.heap.size w wr ∧ Touch (fun b => b = w1.heap.size ∨ w2.heap.size ≤ b) w2 wr) (fun iv _ => J - (intOf iv).toNat)
          case atStart => exact ⟨0, none, 0, rfl, Nat.zero_le _, Zr.out, Zm.out, by rw [List.take_zero]; exact Grow.nil _ _ _ _, HB.out, Touch.refl _ _⟩
          case round =>
            obtain ⟨j, A5, c5, rfl, hj, hZr, hZm, hG, hB, hTM⟩ := hrel
            clear Zr Zm HB
            have Zr := Lib.hid hZr
            have Zm := Lib.hid hZm
            have G := Lib.hid hG
            have HB := Lib.hid hB
            have HTM := Lib.hid hTM
            have hswr := hTM.size
            clear hZr hZm hG hB hTM
            have r10 : wr.cell? ⟨b1, off1 + 10, none⟩ = some (.int .i64 (J : Int)) := (World.cell?_of_block (w := w2) (HTM.out.block b1 (by omega) (fun h => by omega))).trans K10w.out
            by_cases hlt : j < J
            · obtain ⟨g2, z2, hA2, hg2a, hg2b, -, -, -⟩ := O2.out.slot (i := 0) (by have h1 := HN2.out; omega)
              subst hA2
              obtain ⟨p, hp⟩ : ∃ p, at0 l2 (2 * j) = p := ⟨_, rfl⟩
              obtain ⟨q, hq⟩ : ∃ q, at0 l2 (2 * j + 1) = q := ⟨_, rfl⟩
              have HNX := Lib.hid (take_grow (HAT.out j hlt))
              rw [hp, hq] at HNX
              have hc2 : ∀ i, i < n2 → wr.cell? ⟨g2, i, none⟩ = some (.int .i64 (at0 l2 i)) := fun i hi => by
                obtain ⟨g, z, e, -, -, hz, hc, -⟩ := O2.out.slot hi
                obtain rfl : g2 = g := by injection e with e; injection e
                have h9 := at0_some (ns := l2) (k := i) (by have h1 := O2.out.1; omega)
                rw [hz] at h9
                rw [← Option.some.inj h9]
                exact (World.cell?_of_block (w := w2) (HTM.out.block g2 (by omega) (fun h => by omega))).trans hc
              have hin : 2 * j + 1 < n2 := by have h1 := HN2.out; omega
              have r0 : wr.cell? ⟨g2, 2 * j, none⟩ = some (.int .i64 p) := by rw [← hp]; exact hc2 (2 * j) (by omega)
              have r1 : wr.cell? ⟨g2, 2 * j + 1, none⟩ = some (.int .i64 q) := by rw [← hq]; exact hc2 (2 * j + 1) hin
              have r0' : wr.cell? ⟨g2, (2 * (j : Int)).toNat, none⟩ = some (.int .i64 p) := by rw [show (2 * (j : Int)).toNat = 2 * j by omega]; exact r0
              have r1' : wr.cell? ⟨g2, (2 * (j : Int) + 1).toNat, none⟩ = some (.int .i64 q) := by rw [show (2 * (j : Int) + 1).toNat = 2 * j + 1 by omega]; exact r1
              clear hp hq hc2
              have hi1 : 2 * (j : Int) < (n2 : Int) := by omega
              have hi2 : 2 * (j : Int) + 1 < (n2 : Int) := by omega
              have hi3 : (0 : Int) ≤ 2 * (j : Int) + 1 := by omega
              have hi4 : (0 : Int) ≤ 2 * (j : Int) := by omega
              have hw0 : IntKind.i64.wrap (2 * (j : Int)) = 2 * (j : Int) := IntWalk.i64_in _ (by omega)
              have hw1 : IntKind.i64.wrap (2 * (j : Int) + 1) = 2 * (j : Int) + 1 := IntWalk.i64_in _ (by omega)
              obtain ⟨z0, z1, z2, z3, z4, z5, z6, z7, z8, z9, z10, z11, fz⟩ := Zm.out.c12
              have zl5 : ∀ o, (wr.alloc o).cell? ⟨w1.heap.size, 5, none⟩ = some (.slice A5 j c5) := fun o => ((Zm.out.below ((Below.refl _ _).alloc (Nat.le_refl _) o)).c12).2.2.2.2.2.1
              have GA : Hid (Grow 26 2 w2.heap.size (wr.alloc (.cells #[.int .i64 p, .int .i64 q] 26)).drew A5 j c5 (L.take j) (fun _ => False)) := Lib.hid (G.out.below ((Below.refl _ _).alloc (Nat.le_refl _) _).drew)
              have SL : Hid (Src 2 (wr.alloc (.cells #[.int .i64 p, .int .i64 q] 26)).drew (some ⟨wr.heap.size, 0, none⟩) 1 [.r [.i p, .i q]] (fun _ => False)) := Lib.hid (Src.lit (w := wr) (C := #[.int .i64 p, .int .i64 q]) (E := 26) rfl (ownWire (Iv := fun _ => False)) rfl (fun b h => h.elim))
              have HLQ : Hid (w2.heap.size ≤ (wr.alloc (.cells #[.int .i64 p, .int .i64 q] 26)).drew.heap.size) := Lib.hid (by simp; omega)
              go_wp2_with fail
              go_region_law (first
                | (refine step_append_dat _ rfl _ _ 24 rfl 2 (by omega) 26 i0 _ 16 Try.underlying24 hi hz0 hz1 rfl hz2 (w2.heap.size) A5 j c5 (L.take j) (fun _ => False) rfl GA.out (some ⟨wr.heap.size, 0, none⟩) 1 1 [.r [.i p, .i q]] (fun _ => False) rfl SL.out (fun b h => h.elim) (fun a e h => h) (by unfold maxLen; omega) (by omega) HLQ.out ?_; intro A8 c8 w8 hG8 hT8 hA8; have hbl : ∀ a, A5 = some a → w2.heap.size ≤ a.block := (fun a e => (G.out.blkF a e).1); have hTT : Touch (fun x => ∃ a, A5 = some a ∧ x = a.block) wr w8 := (Touch.of_below (((Below.refl _ _).alloc (Nat.le_refl _) (.cells #[.int .i64 p, .int .i64 q] 26)).drew)).trans hT8; have Zr8 := Lib.hid (Zr.out.touch hTT (fun ⟨a, e, hx⟩ => by have h1 := hbl a e; omega)); have Zm8 := Lib.hid (Zm.out.touch hTT (fun ⟨a, e, hx⟩ => by have h1 := hbl a e; omega)); have HB8 : Hid (Below w.heap.size w w8) := Lib.hid (HB.out.trans (hTT.below (fun x ⟨a, e, hx⟩ => by have h1 := hbl a e; omega) HB.out.size)); have HTM8 : Hid (Touch (fun b => b = w1.heap.size ∨ w2.heap.size ≤ b) w2 w8) := Lib.hid (HTM.out.trans (hTT.mono (fun x ⟨a, e, hx⟩ => Or.inr (by have h1 := hbl a e; omega)))); have G8 := Lib.hid hG8.copied9; obtain ⟨y0, y1, y2, y3, y4, y5, y6, y7, y8, y9, y10, y11, fy⟩ := Zm8.out.c12; clear hG8 hT8 hA8 hTT hbl))
              all_goals (
                have hT9 : Touch (fun x => x = w1.heap.size) w8 (w8.setCell ⟨w1.heap.size, 5, none⟩ (.slice A8 (j + 1) c8)) := (Touch.refl (fun x => x = w1.heap.size) w8).setCell (p := ⟨w1.heap.size, 5, none⟩) rfl _
                go_wp2_with fail
                go_roundw
                case rel => exact ⟨j + 1, A8, c8, by go_num, by omega, Zr8.out.touch hT9 (by omega), Zm8.out.put 5 _, by rw [HNX.out]; exact G8.out.touch hT9 (fun a e h => by have h1 := (G8.out.blkF a e).1; omega) (fun _ h => h.elim), HB8.out.trans (hT9.below (fun x h => by omega) HB8.out.size), HTM8.out.trans (hT9.mono (fun x h => Or.inl h))⟩
                case measure => simp [intOf]; omega)
            · obtain rfl : J = j := by omega
              rw [HLL.out] at G
              have hlr := Zr.out.lt
              have ha0 : ∀ k, k < 11 → at0 (l ++ l2) k = at0 l k := fun k hk => at0_append (by have h1 := HL11.out; omega)
              have HDR : Hid ((l ++ l2).drop 11 = l2) := Lib.hid (List.drop_left' HL11.out)
              have HGD : Hid (∀ (nm : List Int) (wx wy : World) (e : Ending), decM zs = some (l ++ l2, nm) → GivesD9 a0 a1 a2 a3 (bytesOf nm) L J a8 a9 a4 a5 a6 a7 true wx e wy → GivesDM (decM zs) wx e wy) := Lib.hid (fun nm wx wy e h1 h2 => by
                rw [h1]
                show GivesD9 (at0 (l ++ l2) 0) (at0 (l ++ l2) 1) (at0 (l ++ l2) 2) (at0 (l ++ l2) 3) (bytesOf nm) (wiresL ((l ++ l2).drop 11)) (wiresL ((l ++ l2).drop 11)).length (at0 (l ++ l2) 8) (at0 (l ++ l2) 9) (at0 (l ++ l2) 4) (at0 (l ++ l2) 5) (at0 (l ++ l2) 6) (at0 (l ++ l2) 7) true wx e wy
                rw [HDR.out, wiresL_len l2 J HL2J.out, HLEQ.out, ha0 0 (by omega), ha0 1 (by omega), ha0 2 (by omega), ha0 3 (by omega), ha0 8 (by omega), ha0 9 (by omega), ha0 4 (by omega), ha0 5 (by omega), ha0 6 (by omega), ha0 7 (by omega), HA0.out, HA1.out, HA2.out, HA3.out, HA8.out, HA9.out, HA4.out, HA5.out, HA6.out, HA7.out]
                exact h2)
              have HOKN : Hid (∀ nm, okN (l ++ l2) nm = msgB a0 a1 a2 a3 (bytesOf nm) L a8 a9 a4 a5 a6 a7) := Lib.hid (fun nm => by
                rw [okN, HDR.out, HLEQ.out, ha0 0 (by omega), ha0 1 (by omega), ha0 2 (by omega), ha0 3 (by omega), ha0 8 (by omega), ha0 9 (by omega), ha0 4 (by omega), ha0 5 (by omega), ha0 6 (by omega), ha0 7 (by omega), HA0.out, HA1.out, HA2.out, HA3.out, HA8.out, HA9.out, HA4.out, HA5.out, HA6.out, HA7.out])
              clear ha0
              rcases hR : readB zs (e2 : Int) 6 with _ | ⟨nm, f0⟩
              · have HD0 := Lib.hid (decM_nm HNS.out hR)
                have CALLR : Hid (∀ (wx : World), Below w.heap.size w wx → Calls Try.prog 66 #[.slice A n c, .int .i64 (e2 : Int), .int .i64 6] wx (FreshT .u8 5 [] 0 false wx)) := Lib.hid (fun wx hbx => by
                  have k := specReadB A n c zs (e2 : Int) 6 wx (H.out.below hbx) hcap HBY.out hn (by omega) (by omega) (by omega) (by omega)
                  rw [hR] at k
                  exact k)
                clear hR
                go_wp2_with fail
                refine (CALLR.out _ HB.out).mono ?_
                rintro e w3 ⟨A3, n3, c3, rfl, hO3, hb⟩
                have hcv := conv w3 A3 n3 c3 [] hO3.rz Byt.nil
                have hs3 := hb.size
                clear hO3 r10
                replace G := Lib.hid (G.out.below hb)
                replace Zr := Lib.hid (Zr.out.below hb)
                replace Zm := Lib.hid (Zm.out.below hb)
                replace HB : Hid (Below w.heap.size w w3) := Lib.hid (HB.out.trans (hb.mono HB.out.size))
                clear hb
                obtain ⟨z0, z1, z2, z3, z4, z5, z6, z7, z8, z9, z10, z11, fz⟩ := Zm.out.c12
                go_upto_region 14 with (fail)
                clear z0 z1 z2 z3 z4 z5 z6 z7 z8 z9 z10 z11 fz
                have hT9 : Touch (fun x => x = w1.heap.size) w3 (w3.setCell ⟨w1.heap.size, 4, none⟩ (.string (bytesOf []))) := (Touch.refl (fun x => x = w1.heap.size) w3).setCell (p := ⟨w1.heap.size, 4, none⟩) rfl _
                have Zr4 := Lib.hid (Zr.out.touch hT9 (by omega))
                have Zm4 : Hid (Zx w1.heap.size [.int .i64 a0, .int .i64 a1, .int .i64 a2, .int .i64 a3, .string (bytesOf []), .slice A5 J c5, .int .i64 a8, .int .i64 a9, .int .i64 a4, .int .i64 a5, .int .i64 a6, .int .i64 a7] (w3.setCell ⟨w1.heap.size, 4, none⟩ (.string (bytesOf [])))) := Lib.hid (Zm.out.put 4 (.string (bytesOf [])))
                have G4 : Hid (Grow 26 2 w2.heap.size (w3.setCell ⟨w1.heap.size, 4, none⟩ (.string (bytesOf []))) A5 J c5 L (fun _ => False)) := Lib.hid (G.out.touch hT9 (fun a e h => by have h1 := (G.out.blkF a e).1; omega) (fun _ h => h.elim))
                have HB4 : Hid (Below w.heap.size w (w3.setCell ⟨w1.heap.size, 4, none⟩ (.string (bytesOf [])))) := Lib.hid (HB.out.trans (hT9.below (fun x h => by omega) HB.out.size))
                have hs4w : w3.heap.size ≤ (w3.setCell ⟨w1.heap.size, 4, none⟩ (.string (bytesOf []))).heap.size := hT9.size
                clear hT9 Zr Zm G HB hcv
                generalize w3.setCell ⟨w1.heap.size, 4, none⟩ (.string (bytesOf [])) = w4 at *
                have Zr := Zr4
                have Zm := Zm4
                have G := G4
                have HB := HB4
                clear Zr4 Zm4 G4 HB4
                obtain ⟨z0, z1, z2, z3, z4, z5, z6, z7, z8, z9, z10, z11, fz⟩ := Zr.out.c12
                obtain ⟨y0, y1, y2, y3, y4, y5, y6, y7, y8, y9, y10, y11, fy⟩ := Zm.out.c12
                go_wp2_with (
                  with_reducible refine bodyPost_ret (v := .tuple #[.agg #[.int .i64 0, .int .i64 0, .int .i64 0, .int .i64 0, .string ⟨#[]⟩, .slice none 0 0, .int .i64 0, .int .i64 0, .int .i64 0, .int .i64 0, .int .i64 0, .int .i64 0], .bool false]) ?hres rfl ?hpost
                  case hres =>
                    refine results_box2 rfl _ _ (w.heap.size) [.int .i64 0, .int .i64 0, .int .i64 0, .int .i64 0, .string ⟨#[]⟩, .slice none 0 0, .int .i64 0, .int .i64 0, .int .i64 0, .int .i64 0, .int .i64 0, .int .i64 0] (.bool false) _ rfl rfl ?_ Try.underlying30 rfl (by kernel_rfl)
                    refine Zx.box ?_
                    repeat (first | with_reducible exact Zr.out | with_reducible refine Zx.drewB ?_ | with_reducible apply Zx.put12)
                  case hpost =>
                    suffices h9 : ∀ w' : World, Touch (fun b => b = w.heap.size) w4 w' → GivesDM (decM zs) w (.returned (.tuple #[.agg #[.int .i64 0, .int .i64 0, .int .i64 0, .int .i64 0, .string ⟨#[]⟩, .slice none 0 0, .int .i64 0, .int .i64 0, .int .i64 0, .int .i64 0, .int .i64 0, .int .i64 0], .bool false])) w' from h9 _ (by repeat (first | with_reducible exact Touch.refl _ _ | with_reducible refine Touch.drew ?_ | with_reducible refine Touch.put12 ?_ (Eq.refl _)))
                    intro w' hT9
                    rw [HD0.out]; exact GivesDM.zero (HB.out.trans (hT9.below (fun x h => by omega) HB.out.size)))
              · obtain ⟨hbn, v, k, hru, hnm, he0, hv6, hle⟩ := readB_spec HBY.out hR
                have hnl6 : nm.length ≤ 6 := by rw [hnm, List.length_take]; omega
                have hDA := decM_at HNS.out hR
                rw [HOKN.out] at hDA
                have HDA := Lib.hid hDA
                have HBN := Lib.hid hbn
                have CALLR : Hid (∀ (wx : World), Below w.heap.size w wx → Calls Try.prog 66 #[.slice A n c, .int .i64 (e2 : Int), .int .i64 6] wx (FreshT .u8 5 nm f0 true wx)) := Lib.hid (fun wx hbx => by
                  have k := specReadB A n c zs (e2 : Int) 6 wx (H.out.below hbx) hcap HBY.out hn (by omega) (by omega) (by omega) (by omega)
                  rw [hR] at k
                  exact k)
                have hsz : (bytesOf nm).size = nm.length := bytesOf_size nm
                have hs4 : (bytesOf nm).size ≤ 140737488351232 := by omega
                clear hR hru hnm he0 hv6 hle hDA hbn hsz hnl6
                go_wp2_with fail
                refine (CALLR.out _ HB.out).mono ?_
                rintro e w3 ⟨A3, n3, c3, rfl, hO3, hb⟩
                have hcv := conv w3 A3 n3 c3 nm hO3.rz HBN.out
                have hs3 := hb.size
                clear hO3 r10
                replace G := Lib.hid (G.out.below hb)
                replace Zr := Lib.hid (Zr.out.below hb)
                replace Zm := Lib.hid (Zm.out.below hb)
                replace HB : Hid (Below w.heap.size w w3) := Lib.hid (HB.out.trans (hb.mono HB.out.size))
                clear hb
                obtain ⟨z0, z1, z2, z3, z4, z5, z6, z7, z8, z9, z10, z11, fz⟩ := Zm.out.c12
                go_upto_region 14 with (fail)
                clear z0 z1 z2 z3 z4 z5 z6 z7 z8 z9 z10 z11 fz
                have hT9 : Touch (fun x => x = w1.heap.size) w3 (w3.setCell ⟨w1.heap.size, 4, none⟩ (.string (bytesOf nm))) := (Touch.refl (fun x => x = w1.heap.size) w3).setCell (p := ⟨w1.heap.size, 4, none⟩) rfl _
                have Zr4 := Lib.hid (Zr.out.touch hT9 (by omega))
                have Zm4 : Hid (Zx w1.heap.size [.int .i64 a0, .int .i64 a1, .int .i64 a2, .int .i64 a3, .string (bytesOf nm), .slice A5 J c5, .int .i64 a8, .int .i64 a9, .int .i64 a4, .int .i64 a5, .int .i64 a6, .int .i64 a7] (w3.setCell ⟨w1.heap.size, 4, none⟩ (.string (bytesOf nm)))) := Lib.hid (Zm.out.put 4 (.string (bytesOf nm)))
                have G4 : Hid (Grow 26 2 w2.heap.size (w3.setCell ⟨w1.heap.size, 4, none⟩ (.string (bytesOf nm))) A5 J c5 L (fun _ => False)) := Lib.hid (G.out.touch hT9 (fun a e h => by have h1 := (G.out.blkF a e).1; omega) (fun _ h => h.elim))
                have HB4 : Hid (Below w.heap.size w (w3.setCell ⟨w1.heap.size, 4, none⟩ (.string (bytesOf nm)))) := Lib.hid (HB.out.trans (hT9.below (fun x h => by omega) HB.out.size))
                have hs4w : w3.heap.size ≤ (w3.setCell ⟨w1.heap.size, 4, none⟩ (.string (bytesOf nm))).heap.size := hT9.size
                clear hT9 Zr Zm G HB hcv
                generalize w3.setCell ⟨w1.heap.size, 4, none⟩ (.string (bytesOf nm)) = w4 at *
                have Zr := Zr4
                have Zm := Zm4
                have G := G4
                have HB := HB4
                clear Zr4 Zm4 G4 HB4
                obtain ⟨z0, z1, z2, z3, z4, z5, z6, z7, z8, z9, z10, z11, fz⟩ := Zr.out.c12
                obtain ⟨y0, y1, y2, y3, y4, y5, y6, y7, y8, y9, y10, y11, fy⟩ := Zm.out.c12
                by_cases he : f0 = (n : Int)
                · have hbne : (f0 == (n : Int)) = true := by simpa using he
                  have hbne2 : (f0 != (n : Int)) = false := by simp [hbne, bne]
                  obtain ⟨ok, hok⟩ : ∃ ok, msgB a0 a1 a2 a3 (bytesOf nm) L a8 a9 a4 a5 a6 a7 = ok := ⟨_, rfl⟩
                  have HDD : Hid ((ok = true → decM zs = some (l ++ l2, nm)) ∧ (ok = false → decM zs = none)) := Lib.hid (by
                    rw [HDA.out, hok]
                    have e3 : f0 = (zs.length : Int) := by have h1 := HLN.out; omega
                    constructor
                    · intro h; rw [if_pos ⟨e3, h⟩]
                    · intro h; rw [if_neg (fun h2 => by rw [h] at h2; cases h2.2)])
                  have HOK := Lib.hid hok
                  have HE := Lib.hid he
                  clear hok he
                  go_wp2_with fail
                  refine (specIsMsg a0 a1 a2 a3 (bytesOf nm) L A5 J c5 a8 a9 a4 a5 a6 a7 _ G.out.owns.lies HTW.out (by omega) hs4).mono ?_
                  rintro e w5 ⟨rfl, hb⟩
                  have hs5 := hb.size
                  rw [HOK.out]
                  clear z0 z1 z2 z3 z4 z5 z6 z7 z8 z9 z10 z11 fz y0 y1 y2 y3 y4 y5 y6 y7 y8 y9 y10 y11 fy
                  replace G := Lib.hid (G.out.below hb)
                  replace Zr := Lib.hid (Zr.out.below hb)
                  replace Zm := Lib.hid (Zm.out.below hb)
                  replace HB : Hid (Below w.heap.size w w5) := Lib.hid (HB.out.trans (hb.mono HB.out.size))
                  clear hb
                  obtain ⟨z0, z1, z2, z3, z4, z5, z6, z7, z8, z9, z10, z11, fz⟩ := Zr.out.c12
                  obtain ⟨y0, y1, y2, y3, y4, y5, y6, y7, y8, y9, y10, y11, fy⟩ := Zm.out.c12
                  cases ok with
                  | false =>
                    go_wp2_with (
                      with_reducible refine bodyPost_ret (v := .tuple #[.agg #[.int .i64 0, .int .i64 0, .int .i64 0, .int .i64 0, .string ⟨#[]⟩, .slice none 0 0, .int .i64 0, .int .i64 0, .int .i64 0, .int .i64 0, .int .i64 0, .int .i64 0], .bool false]) ?hres rfl ?hpost
                      case hres =>
                        refine results_box2 rfl _ _ (w.heap.size) [.int .i64 0, .int .i64 0, .int .i64 0, .int .i64 0, .string ⟨#[]⟩, .slice none 0 0, .int .i64 0, .int .i64 0, .int .i64 0, .int .i64 0, .int .i64 0, .int .i64 0] (.bool false) _ rfl rfl ?_ Try.underlying30 rfl (by kernel_rfl)
                        refine Zx.box ?_
                        repeat (first | with_reducible exact Zr.out | with_reducible refine Zx.drewB ?_ | with_reducible apply Zx.put12)
                      case hpost =>
                        suffices h9 : ∀ w' : World, Touch (fun b => b = w.heap.size) w5 w' → GivesDM (decM zs) w (.returned (.tuple #[.agg #[.int .i64 0, .int .i64 0, .int .i64 0, .int .i64 0, .string ⟨#[]⟩, .slice none 0 0, .int .i64 0, .int .i64 0, .int .i64 0, .int .i64 0, .int .i64 0, .int .i64 0], .bool false])) w' from h9 _ (by repeat (first | with_reducible exact Touch.refl _ _ | with_reducible refine Touch.drew ?_ | with_reducible refine Touch.put12 ?_ (Eq.refl _)))
                        intro w' hT9
                        rw [HDD.out.2 (by first | rfl | trivial)]; exact GivesDM.zero (HB.out.trans (hT9.below (fun x h => by omega) HB.out.size)))
                  | true =>
                    go_wp2_with (
                      with_reducible refine bodyPost_ret (v := .tuple #[.agg #[.int .i64 a0, .int .i64 a1, .int .i64 a2, .int .i64 a3, .string (bytesOf nm), .slice A5 J c5, .int .i64 a8, .int .i64 a9, .int .i64 a4, .int .i64 a5, .int .i64 a6, .int .i64 a7], .bool true]) ?hres rfl ?hpost
                      case hres =>
                        refine results_box2 rfl _ _ (w.heap.size) [.int .i64 a0, .int .i64 a1, .int .i64 a2, .int .i64 a3, .string (bytesOf nm), .slice A5 J c5, .int .i64 a8, .int .i64 a9, .int .i64 a4, .int .i64 a5, .int .i64 a6, .int .i64 a7] (.bool true) _ rfl rfl ?_ Try.underlying30 rfl (by kernel_rfl)
                        refine Zx.box ?_
                        repeat (first | with_reducible exact Zr.out | with_reducible refine Zx.drewB ?_ | with_reducible apply Zx.put12)
                      case hpost =>
                        suffices h9 : ∀ w' : World, Touch (fun b => b = w.heap.size) w5 w' → GivesDM (decM zs) w (.returned (.tuple #[.agg #[.int .i64 a0, .int .i64 a1, .int .i64 a2, .int .i64 a3, .string (bytesOf nm), .slice A5 J c5, .int .i64 a8, .int .i64 a9, .int .i64 a4, .int .i64 a5, .int .i64 a6, .int .i64 a7], .bool true])) w' from h9 _ (by repeat (first | with_reducible exact Touch.refl _ _ | with_reducible refine Touch.drew ?_ | with_reducible refine Touch.put12 ?_ (Eq.refl _)))
                        intro w' hT9
                        have hG9 := G.out.touch hT9 (fun a e h => by have h1 := (G.out.blkF a e).1; omega) (fun _ h => h.elim)
                        exact HGD.out nm w w' _ (HDD.out.1 (by first | rfl | trivial)) ⟨A5, c5, rfl, hG9.inRng (by omega), HB.out.trans (hT9.below (fun x h => by omega) HB.out.size)⟩)
                · have HD0 : Hid (decM zs = none) := Lib.hid (by rw [HDA.out, if_neg (fun h2 => he (by have h1 := h2.1; have h3 := HLN.out; omega))])
                  have hbne : (f0 == (n : Int)) = false := by simpa using he
                  have hbne2 : (f0 != (n : Int)) = true := by simp [hbne, bne]
                  have HE := Lib.hid he
                  clear he
                  go_wp2_with (
                    with_reducible refine bodyPost_ret (v := .tuple #[.agg #[.int .i64 0, .int .i64 0, .int .i64 0, .int .i64 0, .string ⟨#[]⟩, .slice none 0 0, .int .i64 0, .int .i64 0, .int .i64 0, .int .i64 0, .int .i64 0, .int .i64 0], .bool false]) ?hres rfl ?hpost
                    case hres =>
                      refine results_box2 rfl _ _ (w.heap.size) [.int .i64 0, .int .i64 0, .int .i64 0, .int .i64 0, .string ⟨#[]⟩, .slice none 0 0, .int .i64 0, .int .i64 0, .int .i64 0, .int .i64 0, .int .i64 0, .int .i64 0] (.bool false) _ rfl rfl ?_ Try.underlying30 rfl (by kernel_rfl)
                      refine Zx.box ?_
                      repeat (first | with_reducible exact Zr.out | with_reducible refine Zx.drewB ?_ | with_reducible apply Zx.put12)
                    case hpost =>
                      suffices h9 : ∀ w' : World, Touch (fun b => b = w.heap.size) w4 w' → GivesDM (decM zs) w (.returned (.tuple #[.agg #[.int .i64 0, .int .i64 0, .int .i64 0, .int .i64 0, .string ⟨#[]⟩, .slice none 0 0, .int .i64 0, .int .i64 0, .int .i64 0, .int .i64 0, .int .i64 0, .int .i64 0], .bool false])) w' from h9 _ (by repeat (first | with_reducible exact Touch.refl _ _ | with_reducible refine Touch.drew ?_ | with_reducible refine Touch.put12 ?_ (Eq.refl _)))
                      intro w' hT9
                      rw [HD0.out]; exact GivesDM.zero (HB.out.trans (hT9.below (fun x h => by omega) HB.out.size)))
end Go.Proofs.Ytchofnligbgigaa
