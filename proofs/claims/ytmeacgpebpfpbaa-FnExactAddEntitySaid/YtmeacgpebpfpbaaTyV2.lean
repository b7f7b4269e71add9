/- Chapter 12's data, by program. -/
import Derived.Test.YtmeacgpebpfpbaaTyG2
import Derived.Test.YtmeacgpebpfpbaaTyV0
import Derived.LoopTactic
import Derived.Lib.Hide
import Derived.Deep.QuietTactic
import Derived.BigQuiet
import Derived.Deep.RegionWith
import Derived.Handy
namespace Go.Proofs.Ytmeacgpebpfpbaa
open Go.RowKit
set_option linter.unusedVariables false
set_option linter.unusedSimpArgs false
theorem ownLink {w : World} {a0 a1 a2 a3 : Nat} {f0 : Int} {f1 : Bool} {L2 : List Dat} {B2 : Option Addr} {n2 k2 : Nat} {f3 : Int} {L4 : List Dat} {B4 : Option Addr} {n4 k4 : Nat} {f5 : Int} {L6 : List Dat} {B6 : Option Addr} {n6 k6 : Nat} (hO2 : Owns w (.l L2) [.slice B2 n2 k2] (rng a0 a1)) (hO4 : Owns w (.l L4) [.slice B4 n4 k4] (rng a1 a2)) (hO6 : Owns w (.l L6) [.slice B6 n6 k6] (rng a2 a3)) (ha0 : a0 ≤ a1) (ha1 : a1 ≤ a2) (ha2 : a2 ≤ a3) : Owns w (.r [.i f0, .b f1, .l L2, .i f3, .l L4, .i f5, .l L6]) [.int .i64 f0, .bool f1, .slice B2 n2 k2, .int .i64 f3, .slice B4 n4 k4, .int .i64 f5, .slice B6 n6 k6] (rng a0 a3) := by
  rw [Owns]
  exact (OwnsAll.consF (c1 := [.int .i64 f0]) (d := .i f0) rfl (OwnsAll.consF (c1 := [.bool f1]) (d := .b f1) rfl (OwnsAll.consI hO2 (OwnsAll.consF (c1 := [.int .i64 f3]) (d := .i f3) rfl (OwnsAll.consI hO4 (OwnsAll.consF (c1 := [.int .i64 f5]) (d := .i f5) rfl (OwnsAll.consI hO6 (OwnsAll.nil_ _ _) ha2 (by omega))) ha1 (by omega))) ha0 (by omega))))
theorem zeroLink (w : World) : Owns w (.r [.i 0, .b false, .l [], .i 0, .l [], .i 0, .l []]) (#[.int .i64 0, .bool false, .slice none 0 0, .int .i64 0, .slice none 0 0, .int .i64 0, .slice none 0 0] : Array Value).toList (fun _ => False) := by
  rw [Owns]
  exact (OwnsAll.consF (c1 := [.int .i64 0]) (d := .i 0) rfl (OwnsAll.consF (c1 := [.bool false]) (d := .b false) rfl (OwnsAll.consF (c1 := [.slice none 0 0]) (d := .l []) ⟨none, 0, 0, rfl, rfl, Or.inl rfl⟩ (OwnsAll.consF (c1 := [.int .i64 0]) (d := .i 0) rfl (OwnsAll.consF (c1 := [.slice none 0 0]) (d := .l []) ⟨none, 0, 0, rfl, rfl, Or.inl rfl⟩ (OwnsAll.consF (c1 := [.int .i64 0]) (d := .i 0) rfl (OwnsAll.consF (c1 := [.slice none 0 0]) (d := .l []) ⟨none, 0, 0, rfl, rfl, Or.inl rfl⟩ (OwnsAll.nil_ _ _))))))))
theorem infoLink : (Try.prog.info? 97).map (fun i => (i.zero, i.size, i.bytes)) = some (some (.agg #[.int .i64 0, .bool false, .slice none 0 0, .int .i64 0, .slice none 0 0, .int .i64 0, .slice none 0 0]), 7, 104) := by kernel_rfl
set_option maxRecDepth 100000 in
set_option maxHeartbeats 4000000 in
theorem toLinkS (L : List Dat) (A : Option Addr) (n c : Nat) (w : World) (h : Lies w (.l L) [.slice A n c]) (ht : ∀ x ∈ L, Has tyLink x) (hq : (Dat.l L).bulk ≤ 1099511627776) : Calls Try.prog 91 #[.slice A n c] w (FreshD L w) := by
  obtain ⟨i0, hi, hz0, hz1, hz2⟩ := info_parts infoLink
  have H := Lib.hid h
  have HT := Lib.hid ht
  have hn : n ≤ 1099511627776 := by have := h.count; simp only [Dat.bulk] at hq; omega
  clear h ht
  go_enter Try.func91, Try.ntmps91
  go_wp2_with (refine wpList_make_full _ rfl _ _ 26 rfl w.heap.size 97 i0 (.agg #[.int .i64 0, .bool false, .slice none 0 0, .int .i64 0, .slice none 0 0, .int .i64 0, .slice none 0 0]) 7 Try.underlying26 hi hz0 hz1 _ _ (n : Int) (n : Int) n rfl rfl rfl rfl (by rw [hz2]; omega) (by unfold maxLen; omega) (Nat.le_refl _) ?_)
  intro w1 hown hgrow
  have hU : UptoD w 7 L w.heap.size n 0 w1 := UptoD.start (zc := #[.int .i64 0, .bool false, .slice none 0 0, .int .i64 0, .slice none 0 0, .int .i64 0, .slice none 0 0]) (zeroLink) rfl hown (Nat.le_refl _) ((Below.refl w.heap.size w).grown hgrow (Nat.le_refl _) (fun k h => by cases h))
  clear hown hgrow
  go_wp2
  go_loopw [4] (fun iv wr => ∃ i : Nat, i ≤ n ∧ iv = .int .i64 i ∧ UptoD w 7 L w.heap.size n i wr) (fun iv _ => n - (intOf iv).toNat)
  case atStart => exact ⟨0, Nat.zero_le _, rfl, hU⟩
  case round =>
    obtain ⟨i, hin, rfl, hUr⟩ := hrel
    clear hU
    by_cases hlt : i < n
    · have hUr' := Lib.hid hUr
      obtain ⟨ds, B, -, -, -, -, -, hb⟩ := hUr
      obtain ⟨b, off, d, xs, rfl, hbw, hzi, hlie, hlen, hcell⟩ := (H.out.below hb).elem (fun x hx => (HT.out x hx).width) hlt
      obtain ⟨f0, f1, L2, A2, n2, c2, f3, L4, A4, n4, c4, f5, L6, A6, n6, c6, rfl, rfl, hl2, ht2, hm2, hl4, ht4, hm4, hl6, ht6, hm6⟩ := invLink (HT.out d (List.mem_of_getElem? hzi)) hlie
      have r0 : wr.cell? ⟨b, off + i * 7, none⟩ = some (.int .i64 f0) := hcell 0 _ rfl
      have r1 : wr.cell? ⟨b, off + i * 7 + 1, none⟩ = some (.bool f1) := hcell 1 _ rfl
      have r2 : wr.cell? ⟨b, off + i * 7 + 2, none⟩ = some (.slice A2 n2 c2) := hcell 2 _ rfl
      have r3 : wr.cell? ⟨b, off + i * 7 + 3, none⟩ = some (.int .i64 f3) := hcell 3 _ rfl
      have r4 : wr.cell? ⟨b, off + i * 7 + 4, none⟩ = some (.slice A4 n4 c4) := hcell 4 _ rfl
      have r5 : wr.cell? ⟨b, off + i * 7 + 5, none⟩ = some (.int .i64 f5) := hcell 5 _ rfl
      have r6 : wr.cell? ⟨b, off + i * 7 + 6, none⟩ = some (.slice A6 n6 c6) := hcell 6 _ rfl
      have hq2 : (Dat.l L2).bulk ≤ 1099511627776 := by have h1 := bulk_mem (List.mem_of_getElem? hzi); simp only [Dat.bulk, bulkAll] at h1 hq ⊢; omega
      have hq4 : (Dat.l L4).bulk ≤ 1099511627776 := by have h1 := bulk_mem (List.mem_of_getElem? hzi); simp only [Dat.bulk, bulkAll] at h1 hq ⊢; omega
      have hq6 : (Dat.l L6).bulk ≤ 1099511627776 := by have h1 := bulk_mem (List.mem_of_getElem? hzi); simp only [Dat.bulk, bulkAll] at h1 hq ⊢; omega
      have HZ := Lib.hid hzi
      have HW := Lib.hid ((HT.out _ (List.mem_of_getElem? hzi)).width)
      have HBR := Lib.hid hb
      have HL2 := Lib.hid hl2
      have HX2 := Lib.hid ht2
      have HL4 := Lib.hid hl4
      have HX4 := Lib.hid ht4
      have HL6 := Lib.hid hl6
      have HX6 := Lib.hid ht6
      clear hzi hb hcell hlie hl2 ht2 hl4 ht4 hl6 ht6
      go_wp2_with (
        with_reducible refine (toLink f0 f1 L2 A2 n2 c2 f3 L4 A4 n4 c4 f5 L6 A6 n6 c6 _ HL2.out HX2.out hq2 HL4.out HX4.out hq4 HL6.out HX6.out hq6).mono ?_
        rintro e w2 ⟨B2, k2, B4, k4, B6, k6, a1, a2, rfl, hO2, hO4, hO6, ha0, ha1, ha2, hb⟩
        have hsl := hUr'.out.slot hlt hb
        obtain ⟨u0, s0⟩ : ∃ u, w2.cell? ⟨w.heap.size, i * 7, none⟩ = some u := hsl.1 0 (by omega)
        have t0 := hsl.2 (i * 7)
        obtain ⟨u1, s1⟩ : ∃ u, w2.cell? ⟨w.heap.size, i * 7 + 1, none⟩ = some u := hsl.1 1 (by omega)
        have t1 := hsl.2 (i * 7 + 1)
        obtain ⟨u2, s2⟩ : ∃ u, w2.cell? ⟨w.heap.size, i * 7 + 2, none⟩ = some u := hsl.1 2 (by omega)
        have t2 := hsl.2 (i * 7 + 2)
        obtain ⟨u3, s3⟩ : ∃ u, w2.cell? ⟨w.heap.size, i * 7 + 3, none⟩ = some u := hsl.1 3 (by omega)
        have t3 := hsl.2 (i * 7 + 3)
        obtain ⟨u4, s4⟩ : ∃ u, w2.cell? ⟨w.heap.size, i * 7 + 4, none⟩ = some u := hsl.1 4 (by omega)
        have t4 := hsl.2 (i * 7 + 4)
        obtain ⟨u5, s5⟩ : ∃ u, w2.cell? ⟨w.heap.size, i * 7 + 5, none⟩ = some u := hsl.1 5 (by omega)
        have t5 := hsl.2 (i * 7 + 5)
        obtain ⟨u6, s6⟩ : ∃ u, w2.cell? ⟨w.heap.size, i * 7 + 6, none⟩ = some u := hsl.1 6 (by omega)
        have t6 := hsl.2 (i * 7 + 6)
        have HN := Lib.hid (UptoD.next hUr'.out hlt HZ.out HW.out (ownLink hO2 hO4 hO6 ha0 ha1 ha2) (fun b hb => hb) hb)
        clear hsl hb hO2 hO4 hO6)
      go_roundw
      case rel => exact ⟨i + 1, by omega, by go_num, HN.out⟩
      case measure => simp [intOf]; omega
    · obtain rfl : i = n := by omega
      have hUr' := Lib.hid hUr
      clear hUr
      go_wp2_with fail
      go_ret
      exact hUr'.out.ret H.out.count
end Go.Proofs.Ytmeacgpebpfpbaa
