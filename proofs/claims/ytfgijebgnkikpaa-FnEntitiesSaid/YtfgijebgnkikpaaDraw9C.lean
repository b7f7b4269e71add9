/- Draws of chapter 9: l9CopySents. -/
import Derived.Test.YtfgijebgnkikpaaNewO
import Derived.Test.YtfgijebgnkikpaaEntV
import Derived.LoopTactic
import Derived.Lib.Hide
import Derived.Deep.QuietTactic
import Derived.BigQuiet
import Derived.Deep.RegionWith
import Derived.Handy
namespace Go.Proofs.Ytfgijebgnkikpaa
open Go.RowKit
set_option linter.unusedVariables false
set_option linter.unusedSimpArgs false
theorem Box.lows {b B : Nat} {cs : List Value} {w w' : World} (h : Box b cs w) (hb : Below B w w') (hB : b < B) : Box b cs w' := ⟨Nat.lt_of_lt_of_le h.1 hb.size, fun i v hv => (hb.cell (p := ⟨b, i, none⟩) hB).trans (h.2 i v hv)⟩
theorem Box.c7 {b : Nat} {w : World} {v0 v1 v2 v3 v4 v5 v6 : Value} (h : Box b [v0, v1, v2, v3, v4, v5, v6] w) : w.cell? ⟨b, 0, none⟩ = some v0 ∧ w.cell? ⟨b, 1, none⟩ = some v1 ∧ w.cell? ⟨b, 2, none⟩ = some v2 ∧ w.cell? ⟨b, 3, none⟩ = some v3 ∧ w.cell? ⟨b, 4, none⟩ = some v4 ∧ w.cell? ⟨b, 5, none⟩ = some v5 ∧ w.cell? ⟨b, 6, none⟩ = some v6 := ⟨h.2 0 _ rfl, h.2 1 _ rfl, h.2 2 _ rfl, h.2 3 _ rfl, h.2 4 _ rfl, h.2 5 _ rfl, h.2 6 _ rfl⟩
theorem Src.lit9 {w : World} {k q : Nat} {d : Dat} {xs : List Value} {C : Array Value} {B : Nat → Prop} {E : TypeId} (hq : w.heap.size = q) (hC : C.toList = xs) (ho : Owns w d xs B) (hw : d.width = k) (hB : ∀ b, B b → b < w.heap.size) : Src k (w.alloc (.cells C E)) (some ⟨q, 0, none⟩) 1 [d] B := by
  subst hq
  exact Src.lit hC ho hw hB
theorem flatAsker {d : Dat} (h : Has tyAsker d) : d.flat = true := by
  simp only [tyAsker, Has, HasAll] at h
  obtain ⟨ds, rfl, d0, r0, rfl, ⟨f0, rfl, -, -⟩, d1, r1, rfl, ⟨f1, rfl, -, -⟩, rfl⟩ := h
  rfl
set_option maxRecDepth 100000 in
set_option maxHeartbeats 8000000 in
theorem l9CopySents (L : List Dat) (A : Option Addr) (n c : Nat) (w : World) (h : Lies w (.l L) [.slice A n c]) (ht : ∀ x ∈ L, Has tySent x) (hq : (Dat.l L).bulk ≤ 1000) : Calls Try.prog 84 #[.slice A n c] w (FreshD L w) := by
  obtain ⟨i0, hi, hz0, hz1, hz2⟩ := info_parts infoValue
  obtain ⟨i1, hj, hy0, hy1, hy2⟩ := info_parts infoSent
  have hn : n ≤ 1000 := by have := h.count; simp only [Dat.bulk] at hq; omega
  have hn2s : ∀ x ∈ L, x.bulk ≤ 1000 := fun x hx => by have h1 := bulk_mem hx; simp only [Dat.bulk] at hq; omega
  have H := Lib.hid h
  have HT := Lib.hid ht
  have HC := Lib.hid h.count
  have HN2 := Lib.hid hn2s
  have G0 := Lib.hid (Grow.lit9 111 7 w)
  clear h ht hq hn2s
  go_enter Try.func84, Try.ntmps84
  go_wp2_with fail
  go_loopw [3, 4] (fun ov iv wr => ∃ (i : Nat) (A' : Option Addr) (c' : Nat) (Bs : Nat → Prop), i ≤ n ∧ iv = .int .i64 i ∧ ov = .slice A' i c' ∧ Grow 111 7 w.heap.size wr A' i c' (L.take i) Bs ∧ (∀ b, Bs b → w.heap.size ≤ b ∧ b < wr.heap.size) ∧ Below w.heap.size w wr) (fun _ iv _ => n - (intOf iv).toNat)
  case atStart => exact ⟨0, _, _, _, Nat.zero_le _, rfl, rfl, G0.out, (fun b hb => hb.elim), by go_grown⟩
  case round =>
    obtain ⟨i, A', c', Bs, hin, rfl, rfl, hG, hBs, hb⟩ := hrel
    by_cases hlt : i < n
    · obtain ⟨b, off, d, xs, rfl, hbw, hzi, hlie, hlen, hcell⟩ := (H.out.below hb).elem (fun x hx => (HT.out x hx).width) hlt
      have hd1000 := HN2.out d (List.mem_of_getElem? hzi)
      obtain ⟨f0, f1, L2, A2, n2, c2, f3, f4_0, f4_1, f4_2, rfl, rfl, hf1, hl2, ht2, hm2⟩ := invSent (HT.out d (List.mem_of_getElem? hzi)) hlie
      have hn2 : n2 ≤ 1000 := by have h1 := hl2.count; simp only [Dat.bulk, bulkAll] at hd1000; omega
      have r0 : wr.cell? ⟨b, off + i * 7, none⟩ = some (.int .i64 f0) := hcell 0 _ rfl
      have r1 : wr.cell? ⟨b, off + i * 7 + 1, none⟩ = some (.string f1) := hcell 1 _ rfl
      have r2 : wr.cell? ⟨b, off + i * 7 + 2, none⟩ = some (.slice A2 n2 c2) := hcell 2 _ rfl
      have r3 : wr.cell? ⟨b, off + i * 7 + 3, none⟩ = some (.int .i64 f3) := hcell 3 _ rfl
      have r4 : wr.cell? ⟨b, off + i * 7 + 4, none⟩ = some (.int .i64 f4_0) := hcell 4 _ rfl
      have r5 : wr.cell? ⟨b, off + i * 7 + 5, none⟩ = some (.int .i64 f4_1) := hcell 5 _ rfl
      have r6 : wr.cell? ⟨b, off + i * 7 + 6, none⟩ = some (.int .i64 f4_2) := hcell 6 _ rfl
      have R2 : ∀ o1 o2, ((wr.alloc o1).alloc o2).cell? ⟨b, off + i * 7 + 2, none⟩ = some (.slice A2 n2 c2) := fun o1 o2 => ((((Below.refl wr.heap.size wr).alloc (Nat.le_refl _) o1).alloc (by simp) o2).cell (p := ⟨b, off + i * 7 + 2, none⟩) hbw).trans r2
      have hA' : ∀ a, A' = some a → w.heap.size ≤ a.block ∧ a.block < wr.heap.size := fun a e => by
        subst e
        have h9 := hG.own a.block (by simp [Value.ownBlock])
        exact ⟨h9.1, h9.2.1⟩
      have HA := Lib.hid hA'
      have HGr := Lib.hid hG
      have HBs := Lib.hid hBs
      have HB := Lib.hid hb
      have HZ := Lib.hid hzi
      have HL2 := Lib.hid hl2
      have HT2 := Lib.hid ht2
      have hsw := hb.size
      have G1 := Lib.hid (Grow.lit9 26 2 (wr.alloc (.cells #[.int .i64 f0, .string f1, .slice A2 n2 c2, .int .i64 f3, .int .i64 f4_0, .int .i64 f4_1, .int .i64 f4_2] 111)))
      simp only [World.size_alloc] at G1
      have B1 : Hid (Below wr.heap.size wr ((wr.alloc (.cells #[.int .i64 f0, .string f1, .slice A2 n2 c2, .int .i64 f3, .int .i64 f4_0, .int .i64 f4_1, .int .i64 f4_2] 111)).alloc (.cells #[] 26))) := Lib.hid (by go_grown)
      have X1 := Lib.hid ((Box.new wr #[.int .i64 f0, .string f1, .slice A2 n2 c2, .int .i64 f3, .int .i64 f4_0, .int .i64 f4_1, .int .i64 f4_2] 111).alloc (.cells #[] 26))
      have F1 : Hid (∀ j, ((wr.alloc (.cells #[.int .i64 f0, .string f1, .slice A2 n2 c2, .int .i64 f3, .int .i64 f4_0, .int .i64 f4_1, .int .i64 f4_2] 111)).alloc (.cells #[] 26)).frozen? ⟨wr.heap.size, j, none⟩ = false) := Lib.hid (fun j => by simp [go_sem])
      clear hG hBs hb hzi hcell hlie hlen hl2 ht2 hA' G0 hd1000
      go_wp2_with (first
        | (refine wpList_append_dat _ rfl _ _ 24 rfl 2 (by omega) 26 i0 _ 16 Try.underlying24 hi hz0 hz1 rfl hz2 (wr.heap.size + 1) _ 0 0 [] _ rfl G1.out A2 n2 c2 L2 (fun _ => False) rfl (Src.of_lies (HL2.out.below B1.out) (fun x hx => (HT2.out x hx).width) (fun x hx => flatValue (HT2.out x hx))) (fun b h => h.elim) (fun a e h => h) (by unfold maxLen; omega) (by omega) (by simp) ?_; intro A8 c8 w8 hG8 hT8 hA8; (have HO8 := Lib.hid (GrowObj hG8)); (have hb8 : Below (wr.heap.size + 1) ((wr.alloc (.cells #[.int .i64 f0, .string f1, .slice A2 n2 c2, .int .i64 f3, .int .i64 f4_0, .int .i64 f4_1, .int .i64 f4_2] 111)).alloc (.cells #[] 26)) w8 := hT8.below (fun b ⟨a, e, hb⟩ => by obtain rfl := Option.some.inj e; rw [hb]; exact Nat.le_refl _) (by simp)); (have hs8 := hb8.size); simp only [World.size_alloc] at hs8; (have X8 := Lib.hid (Box.lows X1.out hb8 (by omega))); (have F8 := Lib.hid (fun j => (hb8.frozen (p := ⟨wr.heap.size, j, none⟩) (by show wr.heap.size < wr.heap.size + 1; omega)).trans (F1.out j))); (have HB8 := Lib.hid (B1.out.trans (hb8.mono (by omega)))); clear hG8 hT8 hA8 hb8; (obtain ⟨y0, y1, y2, y3, y4, y5, y6⟩ := X8.out.c7); (have fy := F8.out))
        | (refine wpList_append_dat _ rfl _ _ 27 rfl 7 (by omega) 111 i1 _ 80 Try.underlying27 hj hy0 hy1 rfl hy2 w.heap.size A' i c' (L.take i) Bs rfl (HGr.out.below ((HB8.out.setCell (p := ⟨wr.heap.size, 2, none⟩) (Nat.le_refl _) _).alloc (by simp only [World.size_setCell]; omega) _)) (some ⟨w8.heap.size, 0, none⟩) 1 1 [.r [.i f0, .s f1, .l L2, .i f3, .r [.i f4_0, .i f4_1, .i f4_2]]] (rng (wr.heap.size + 1) w8.heap.size) rfl (Src.lit9 (by simp only [World.size_setCell]) rfl (ownSent (HO8.out.touch ((Touch.refl (fun b => b = wr.heap.size) w8).setCell (p := ⟨wr.heap.size, 2, none⟩) rfl _) (fun b hb e => by have h1 := hb.1; omega)) (by omega)) rfl (fun b hb => by simp only [World.size_setCell]; exact hb.2)) (fun b hb hb2 => by have h1 := (HBs.out b hb).2; have h2 := hb2.1; omega) (fun a e hb2 => by have h1 := (HA.out a e).2; have h2 := hb2.1; omega) (by unfold maxLen; omega) (by omega) (by simp only [World.size_alloc, World.size_setCell]; omega) ?_; intro A9 c9 w9 hG9 hT9 hA9; (have HG9 := Lib.hid hG9); (have hs9 := hT9.size); simp only [World.size_alloc, World.size_setCell] at hs9; (have HB9 := Lib.hid ((HB.out.trans (((HB8.out.setCell (p := ⟨wr.heap.size, 2, none⟩) (Nat.le_refl _) _).alloc (by simp only [World.size_setCell]; omega) _).mono HB.out.size)).trans (hT9.below (fun b ⟨a, e, hb⟩ => by have h1 := (HA.out a e).1; omega) (by simp only [World.size_alloc, World.size_setCell]; omega)))); clear hG9 hT9 hA9))
      go_roundw
      case rel =>
        refine ⟨i + 1, A9, c9, (fun b => Bs b ∨ rng (wr.heap.size + 1) w8.heap.size b), by omega, by go_num, rfl, ?_, ?_, HB9.out⟩
        · rw [List.take_add_one, HZ.out]
          exact HG9.out
        · intro b hb
          rcases hb with hb | hb
          · have h1 := HBs.out b hb
            omega
          · have h1 := hb.1
            have h2 := hb.2
            omega
      case measure => simp [intOf]; omega
    · obtain rfl : n = i := by omega
      have HGr : Hid (FreshD L w (.returned (.slice A' n c')) wr) := by
        have hA' : ∀ a, A' = some a → w.heap.size ≤ a.block ∧ a.block < wr.heap.size := fun a e => by
          subst e
          have h9 := hG.own a.block (by simp [Value.ownBlock])
          exact ⟨h9.1, h9.2.1⟩
        rw [List.take_of_length_le (by have := HC.out; omega)] at hG
        exact Lib.hid ⟨A', n, c', rfl, hG.owns.mono (fun b hb => by
          rcases hb with ⟨a, e, rfl⟩ | hb
          · exact hA' a e
          · exact hBs b hb), hb⟩
      clear hG hBs hb
      go_wp2_with fail
      go_ret
      exact HGr.out
end Go.Proofs.Ytfgijebgnkikpaa
