/- Chapter 11: the program's messageOf. -/
import Derived.Test.YtchofnligbgigaaZxM
import Derived.Test.YtchofnligbgigaaTyM2
import Derived.Deep.RegionHeld3
import Derived.Deep.RegionLaw
import Derived.Deep.CutRange
import Derived.LoopTactic
import Derived.Lib.Hide
import Derived.Deep.QuietTactic
import Derived.BigQuiet
import Derived.Deep.RegionWith
import Derived.Handy
namespace Go.Proofs.Ytchofnligbgigaa
open Go.RowKit
set_option linter.unusedVariables false
set_option linter.unusedSimpArgs false
set_option maxRecDepth 100000 in
set_option maxHeartbeats 16000000 in
theorem implMO (A : Option Addr) (n c : Nat) (ns : List Int) (s : ByteArray) (J : Nat) (w : World) (h : Rz .i64 w A n ns) (hJ : n = 11 + 2 * J) (hJ2 : J ≤ 1000) :
    Calls Try.prog 43 #[.slice A n c, .string s] w (GivesMessage (at0 ns 0) (at0 ns 1) (at0 ns 2) (at0 ns 3) s (wiresL (ns.drop 11)) J (at0 ns 8) (at0 ns 9) (at0 ns 4) (at0 ns 5) (at0 ns 6) (at0 ns 7) w) := by
  obtain ⟨i0, hi, hz0, hz1, hz2⟩ := info_parts infoWire
  have hlen := h.1
  obtain ⟨b, off, rfl, hbw, hcell⟩ : ∃ b off, A = some ⟨b, off, none⟩ ∧ b < w.heap.size ∧ ∀ (j : Nat) (z : Int), ns[j]? = some z → w.cell? ⟨b, off + j, none⟩ = some (.int .i64 z) := by
    rcases h.2 with h2 | ⟨b, off, e, hb, hc⟩
    · have : ns = [] := by simpa using h2
      subst this
      simp at hlen
      omega
    · exact ⟨b, off, e, hb, fun j z hz => hc j _ (by rw [List.getElem?_map, hz]; rfl)⟩
  have HC : Hid (∀ (wx : World) (j : Nat), Below w.heap.size w wx → j < n → wx.cell? ⟨b, off + j, none⟩ = some (.int .i64 (at0 ns j))) := Lib.hid (fun wx j hb hj => (hb.cell (p := ⟨b, off + j, none⟩) hbw).trans (hcell j _ (at0_some (by omega))))
  obtain ⟨L, hL⟩ : ∃ L, wiresL (ns.drop 11) = L := ⟨_, rfl⟩
  have HAT : Hid (∀ j, j < J → L[j]? = some (.r [.i (at0 ns (11 + 2 * j)), .i (at0 ns (11 + 2 * j + 1))])) := Lib.hid (fun j hj => by
    have h1 := wiresL_at (ns.drop 11) j (by rw [List.length_drop]; omega)
    rw [at0_drop, at0_drop, hL] at h1
    exact h1)
  have HLL : Hid (L.take J = L) := Lib.hid (List.take_of_length_le (by rw [← hL, wiresL_len (ns.drop 11) J (by rw [List.length_drop]; omega)]; exact Nat.le_refl _))
  rw [hL]
  clear hL hcell
  obtain ⟨a0, ha0⟩ : ∃ a, at0 ns 0 = a := ⟨_, rfl⟩
  obtain ⟨a1, ha1⟩ : ∃ a, at0 ns 1 = a := ⟨_, rfl⟩
  obtain ⟨a2, ha2⟩ : ∃ a, at0 ns 2 = a := ⟨_, rfl⟩
  obtain ⟨a3, ha3⟩ : ∃ a, at0 ns 3 = a := ⟨_, rfl⟩
  obtain ⟨a4, ha4⟩ : ∃ a, at0 ns 4 = a := ⟨_, rfl⟩
  obtain ⟨a5, ha5⟩ : ∃ a, at0 ns 5 = a := ⟨_, rfl⟩
  obtain ⟨a6, ha6⟩ : ∃ a, at0 ns 6 = a := ⟨_, rfl⟩
  obtain ⟨a7, ha7⟩ : ∃ a, at0 ns 7 = a := ⟨_, rfl⟩
  obtain ⟨a8, ha8⟩ : ∃ a, at0 ns 8 = a := ⟨_, rfl⟩
  obtain ⟨a9, ha9⟩ : ∃ a, at0 ns 9 = a := ⟨_, rfl⟩
  have KK : Hid (∀ wx : World, Below w.heap.size w wx → wx.cell? ⟨b, off, none⟩ = some (.int .i64 a0) ∧ wx.cell? ⟨b, off + 1, none⟩ = some (.int .i64 a1) ∧ wx.cell? ⟨b, off + 2, none⟩ = some (.int .i64 a2) ∧ wx.cell? ⟨b, off + 3, none⟩ = some (.int .i64 a3) ∧ wx.cell? ⟨b, off + 4, none⟩ = some (.int .i64 a4) ∧ wx.cell? ⟨b, off + 5, none⟩ = some (.int .i64 a5) ∧ wx.cell? ⟨b, off + 6, none⟩ = some (.int .i64 a6) ∧ wx.cell? ⟨b, off + 7, none⟩ = some (.int .i64 a7) ∧ wx.cell? ⟨b, off + 8, none⟩ = some (.int .i64 a8) ∧ wx.cell? ⟨b, off + 9, none⟩ = some (.int .i64 a9)) := Lib.hid (fun wx hb => ⟨by rw [← ha0]; exact HC.out wx 0 hb (by omega), by rw [← ha1]; exact HC.out wx 1 hb (by omega), by rw [← ha2]; exact HC.out wx 2 hb (by omega), by rw [← ha3]; exact HC.out wx 3 hb (by omega), by rw [← ha4]; exact HC.out wx 4 hb (by omega), by rw [← ha5]; exact HC.out wx 5 hb (by omega), by rw [← ha6]; exact HC.out wx 6 hb (by omega), by rw [← ha7]; exact HC.out wx 7 hb (by omega), by rw [← ha8]; exact HC.out wx 8 hb (by omega), by rw [← ha9]; exact HC.out wx 9 hb (by omega)⟩)
  rw [ha0, ha1, ha2, ha3, ha8, ha9, ha4, ha5, ha6, ha7]
  clear ha0 ha1 ha2 ha3 ha4 ha5 ha6 ha7 ha8 ha9 h hlen
  have hx0 : (0 : Int) < (n : Int) := by omega
  have hx1 : (1 : Int) < (n : Int) := by omega
  have hx2 : (2 : Int) < (n : Int) := by omega
  have hx3 : (3 : Int) < (n : Int) := by omega
  have hx4 : (4 : Int) < (n : Int) := by omega
  have hx5 : (5 : Int) < (n : Int) := by omega
  have hx6 : (6 : Int) < (n : Int) := by omega
  have hx7 : (7 : Int) < (n : Int) := by omega
  have hx8 : (8 : Int) < (n : Int) := by omega
  have hx9 : (9 : Int) < (n : Int) := by omega
  have hx00 : 0 < n := by omega
  have HN := Lib.hid hJ
  have hJ3 : n ≤ 2011 := by omega
  clear hJ
  have Zr : Hid (Zx w.heap.size [.int .i64 0, .int .i64 0, .int .i64 0, .int .i64 0, .string ⟨#[]⟩, .slice none 0 0, .int .i64 0, .int .i64 0, .int .i64 0, .int .i64 0, .int .i64 0, .int .i64 0] (w.alloc (.cells #[.int .i64 0, .int .i64 0, .int .i64 0, .int .i64 0, .string ⟨#[]⟩, .slice none 0 0, .int .i64 0, .int .i64 0, .int .i64 0, .int .i64 0, .int .i64 0, .int .i64 0] 30))) := Lib.hid (Zx.new w #[.int .i64 0, .int .i64 0, .int .i64 0, .int .i64 0, .string ⟨#[]⟩, .slice none 0 0, .int .i64 0, .int .i64 0, .int .i64 0, .int .i64 0, .int .i64 0, .int .i64 0] 30)
  have HB1 : Hid (Below w.heap.size w (w.alloc (.cells #[.int .i64 0, .int .i64 0, .int .i64 0, .int .i64 0, .string ⟨#[]⟩, .slice none 0 0, .int .i64 0, .int .i64 0, .int .i64 0, .int .i64 0, .int .i64 0, .int .i64 0] 30))) := Lib.hid ((Below.refl _ _).alloc (Nat.le_refl _) _)
  go_enter Try.func43, Try.ntmps43
  go_upto_region 1 with (fail)
  go_cut [5] from 7 to 40 (fun s5 wx => s5 = .pointer (some ⟨w.heap.size + 1, 0, none⟩) ∧ Zx w.heap.size [.int .i64 0, .int .i64 0, .int .i64 0, .int .i64 0, .string ⟨#[]⟩, .slice none 0 0, .int .i64 0, .int .i64 0, .int .i64 0, .int .i64 0, .int .i64 0, .int .i64 0] wx ∧ Zx (w.heap.size + 1) [.int .i64 a0, .int .i64 a1, .int .i64 a2, .int .i64 a3, .string s, .slice none 0 0, .int .i64 a8, .int .i64 a9, .int .i64 a4, .int .i64 a5, .int .i64 a6, .int .i64 a7] wx ∧ Below w.heap.size w wx)
  case first =>
    obtain ⟨r0, r1, r2, r3, r4, r5, r6, r7, r8, r9⟩ := KK.out _ HB1.out
    go_region_held3 (fun w' => w'.cell? ⟨b, off, none⟩ = some (.int .i64 a0) ∧ w'.cell? ⟨b, off + 1, none⟩ = some (.int .i64 a1) ∧ w'.cell? ⟨b, off + 2, none⟩ = some (.int .i64 a2) ∧ w'.cell? ⟨b, off + 3, none⟩ = some (.int .i64 a3) ∧ w'.cell? ⟨b, off + 4, none⟩ = some (.int .i64 a4) ∧ w'.cell? ⟨b, off + 5, none⟩ = some (.int .i64 a5) ∧ w'.cell? ⟨b, off + 6, none⟩ = some (.int .i64 a6) ∧ w'.cell? ⟨b, off + 7, none⟩ = some (.int .i64 a7) ∧ w'.cell? ⟨b, off + 8, none⟩ = some (.int .i64 a8) ∧ w'.cell? ⟨b, off + 9, none⟩ = some (.int .i64 a9))
      (first | exact KK.out _ HB1.out | exact KK.out _ HB1.out.drew | exact KK.out _ (HB1.out.alloc HB1.out.size _) | exact KK.out _ (HB1.out.alloc HB1.out.size _).drew | exact KK.out _ (HB1.out.drew.alloc HB1.out.size _) | go_keep)
      (first | fail)
    all_goals (
      go_wp2_with fail
      go_meet
      refine ⟨rfl, ?_, ?_, ?_⟩
      · first | exact Zr.out.below ((Below.refl _ _).alloc (Nat.le_refl _) _).drew | exact Zr.out.below ((Below.refl _ _).drew.alloc (Nat.le_refl _) _) | exact Zr.out.below ((Below.refl _ _).alloc (Nat.le_refl _) _)
      · first | exact (Zx.newAt _ _ (by simp) #[.int .i64 a0, .int .i64 a1, .int .i64 a2, .int .i64 a3, .string s, .slice none 0 0, .int .i64 a8, .int .i64 a9, .int .i64 a4, .int .i64 a5, .int .i64 a6, .int .i64 a7] 30).drewB | exact Zx.newAt _ _ (by simp) #[.int .i64 a0, .int .i64 a1, .int .i64 a2, .int .i64 a3, .string s, .slice none 0 0, .int .i64 a8, .int .i64 a9, .int .i64 a4, .int .i64 a5, .int .i64 a6, .int .i64 a7] 30
      · first | exact (HB1.out.alloc HB1.out.size _).drew | exact HB1.out.drew.alloc HB1.out.size _ | exact HB1.out.alloc HB1.out.size _)
  case rest =>
    obtain ⟨rfl, hZr, hZm, hB⟩ := hcut
    clear Zr HB1
    have Zr := Lib.hid hZr
    have Zm := Lib.hid hZm
    have HB := Lib.hid hB
    have hsz := hZm.lt
    clear hZr hZm hB
    go_wp2_with fail
    go_loopw [6] (fun iv wr => ∃ (j : Nat) (A5 : Option Addr) (c5 : Nat), iv = .int .i64 ((11 + 2 * j : Nat) : Int) ∧ j ≤ J ∧ Zx w.heap.size [.int .i64 0, .int .i64 0, .int .i64 0, .int .i64 0, .string ⟨#[]⟩, .slice none 0 0, .int .i64 0, .int .i64 0, .int .i64 0, .int .i64 0, .int .i64 0, .int .i64 0] wr ∧ Zx (w.heap.size + 1) [.int .i64 a0, .int .i64 a1, .int .i64 a2, .int .i64 a3, .string s, .slice A5 j c5, .int .i64 a8, .int .i64 a9, .int .i64 a4, .int .i64 a5, .int .i64 a6, .int .i64 a7] wr ∧ Grow 26 2 (w.heap.size + 1 + 1) wr A5 j c5 (L.take j) (fun _ => False) ∧ Below w.heap.size w wr) (fun iv _ => n - (intOf iv).toNat)
    case atStart => exact ⟨0, none, 0, rfl, Nat.zero_le _, Zr.out, Zm.out, by rw [List.take_zero]; exact Grow.nil _ _ _ _, HB.out⟩
    case round =>
      obtain ⟨j, A5, c5, rfl, hj, hZr, hZm, hG, hB⟩ := hrel
      clear Zr Zm HB hsz
      have Zr := Lib.hid hZr
      have Zm := Lib.hid hZm
      have G := Lib.hid hG
      have HB := Lib.hid hB
      have hsz := hZm.lt
      clear hZr hZm hG hB
      obtain ⟨i, hij⟩ : ∃ i, 11 + 2 * j = i := ⟨_, rfl⟩
      rw [hij]
      by_cases hlt : j < J
      · have hin : i + 1 < n := by have h1 := HN.out; omega
        obtain ⟨p, hp⟩ : ∃ p, at0 ns i = p := ⟨_, rfl⟩
        obtain ⟨q, hq⟩ : ∃ q, at0 ns (i + 1) = q := ⟨_, rfl⟩
        have HNX := Lib.hid (take_grow (HAT.out j hlt))
        rw [hij, hp, hq] at HNX
        have r0 : wr.cell? ⟨b, off + i, none⟩ = some (.int .i64 p) := by rw [← hp]; exact HC.out wr i HB.out (by omega)
        have r1 : wr.cell? ⟨b, off + (i + 1), none⟩ = some (.int .i64 q) := by rw [← hq]; exact HC.out wr (i + 1) HB.out hin
        have HI := Lib.hid hij
        clear hp hq hij
        have hi1 : (i : Int) < (n : Int) := by omega
        have hi2 : (i : Int) + 1 < (n : Int) := by omega
        have hi3 : (0 : Int) ≤ (i : Int) + 1 := by omega
        have hw : IntKind.i64.wrap ((i : Int) + 1) = (i : Int) + 1 := IntWalk.i64_in _ (by omega)
        obtain ⟨z0, z1, z2, z3, z4, z5, z6, z7, z8, z9, z10, z11, fz⟩ := Zm.out.c12
        have GA : Hid (Grow 26 2 (w.heap.size + 1 + 1) (wr.alloc (.cells #[.int .i64 p, .int .i64 q] 26)).drew A5 j c5 (L.take j) (fun _ => False)) := Lib.hid (G.out.below ((Below.refl _ _).alloc (Nat.le_refl _) _).drew)
        have SL : Hid (Src 2 (wr.alloc (.cells #[.int .i64 p, .int .i64 q] 26)).drew (some ⟨wr.heap.size, 0, none⟩) 1 [.r [.i p, .i q]] (fun _ => False)) := Lib.hid (Src.lit (w := wr) (C := #[.int .i64 p, .int .i64 q]) (E := 26) rfl (ownWire (Iv := fun _ => False)) rfl (fun b h => h.elim))
        have HLQ : Hid (w.heap.size + 1 + 1 ≤ (wr.alloc (.cells #[.int .i64 p, .int .i64 q] 26)).drew.heap.size) := Lib.hid (by simp; omega)
        go_wp2_with fail
        go_region_law (first
          | (refine step_append_dat _ rfl _ _ 24 rfl 2 (by omega) 26 i0 _ 16 Try.underlying24 hi hz0 hz1 rfl hz2 (w.heap.size + 1 + 1) A5 j c5 (L.take j) (fun _ => False) rfl GA.out (some ⟨wr.heap.size, 0, none⟩) 1 1 [.r [.i p, .i q]] (fun _ => False) rfl SL.out (fun b h => h.elim) (fun a e h => h) (by unfold maxLen; omega) (by omega) HLQ.out ?_; intro A8 c8 w8 hG8 hT8 hA8; have hTT : Touch (fun x => ∃ a, A5 = some a ∧ x = a.block) wr w8 := (Touch.of_below (((Below.refl _ _).alloc (Nat.le_refl _) (.cells #[.int .i64 p, .int .i64 q] 26)).drew)).trans hT8; have hbl : ∀ a, A5 = some a → w.heap.size + 1 + 1 ≤ a.block := (fun a e => (G.out.blkF a e).1); have Zr8 := Lib.hid (Zr.out.touch hTT (fun ⟨a, e, hx⟩ => by have h1 := hbl a e; omega)); have Zm8 := Lib.hid (Zm.out.touch hTT (fun ⟨a, e, hx⟩ => by have h1 := hbl a e; omega)); have HB8 : Hid (Below w.heap.size w w8) := Lib.hid (HB.out.trans (hTT.below (fun x ⟨a, e, hx⟩ => by have h1 := hbl a e; omega) HB.out.size)); have G8 := Lib.hid hG8.copied9; obtain ⟨y0, y1, y2, y3, y4, y5, y6, y7, y8, y9, y10, y11, fy⟩ := Zm8.out.c12; clear hG8 hT8 hA8 hTT hbl))
        all_goals (
          have hT9 : Touch (fun x => x = w.heap.size + 1) w8 (w8.setCell ⟨w.heap.size + 1, 5, none⟩ (.slice A8 (j + 1) c8)) := (Touch.refl (fun x => x = w.heap.size + 1) w8).setCell (p := ⟨w.heap.size + 1, 5, none⟩) rfl _
          go_wp2_with fail
          go_roundw
          case rel => exact ⟨j + 1, A8, c8, by have := HI.out; go_num, by omega, Zr8.out.touch hT9 (by omega), Zm8.out.put 5 _, by rw [HNX.out]; exact G8.out.touch hT9 (fun a e h => by have h1 := (G8.out.blkF a e).1; omega) (fun _ h => h.elim), HB8.out.trans (hT9.below (fun x h => by omega) HB8.out.size)⟩
          case measure => have h1 := HN.out; have h2 := HI.out; simp [intOf]; omega)
      · obtain rfl : J = j := by omega
        rw [HLL.out] at G
        have hni : ¬ (i : Int) < (n : Int) := by have h1 := HN.out; omega
        clear hij
        obtain ⟨z0, z1, z2, z3, z4, z5, z6, z7, z8, z9, z10, z11, fz⟩ := Zm.out.c12
        obtain ⟨y0, y1, y2, y3, y4, y5, y6, y7, y8, y9, y10, y11, fy⟩ := Zr.out.c12
        go_wp2_with (
          with_reducible refine bodyPost_ret (v := .agg #[.int .i64 a0, .int .i64 a1, .int .i64 a2, .int .i64 a3, .string s, .slice A5 J c5, .int .i64 a8, .int .i64 a9, .int .i64 a4, .int .i64 a5, .int .i64 a6, .int .i64 a7]) ?hres rfl ?hpost
          case hres =>
            refine results_box rfl _ _ (w.heap.size) [.int .i64 a0, .int .i64 a1, .int .i64 a2, .int .i64 a3, .string s, .slice A5 J c5, .int .i64 a8, .int .i64 a9, .int .i64 a4, .int .i64 a5, .int .i64 a6, .int .i64 a7] _ rfl ?_ Try.underlying30 rfl (by kernel_rfl)
            refine Zx.box ?_
            repeat (first | with_reducible exact Zr.out | with_reducible refine Zx.drewB ?_ | with_reducible apply Zx.put12)
          case hpost =>
            suffices h9 : ∀ w' : World, Touch (fun b => b = w.heap.size) wr w' → GivesMessage a0 a1 a2 a3 s L J a8 a9 a4 a5 a6 a7 w (.returned (.agg #[.int .i64 a0, .int .i64 a1, .int .i64 a2, .int .i64 a3, .string s, .slice A5 J c5, .int .i64 a8, .int .i64 a9, .int .i64 a4, .int .i64 a5, .int .i64 a6, .int .i64 a7])) w' from h9 _ (by repeat (first | with_reducible exact Touch.refl _ _ | with_reducible refine Touch.drew ?_ | with_reducible refine Touch.put12 ?_ (Eq.refl _)))
            intro w' hT9
            have hG9 := G.out.touch hT9 (fun a e h => by have h1 := (G.out.blkF a e).1; omega) (fun _ h => h.elim)
            exact ⟨A5, c5, rfl, hG9.inRng (by omega), HB.out.trans (hT9.below (fun x h => by omega) HB.out.size)⟩)
end Go.Proofs.Ytchofnligbgigaa
