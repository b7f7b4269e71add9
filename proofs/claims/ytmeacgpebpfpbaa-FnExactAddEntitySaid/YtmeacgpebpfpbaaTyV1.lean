/- Chapter 12's data, by program. -/
import Derived.Test.YtmeacgpebpfpbaaTyE2
import Derived.Test.YtmeacgpebpfpbaaTyV0
import Derived.LoopTactic
import Derived.Lib.Hide
import Derived.Deep.QuietTactic
import Derived.BigQuiet
import Derived.Deep.RegionWith
import Derived.Handy
namespace Go.Proofs.Ytmeacgpebpfpbaa
open Go.RowKit
set_option linter.unusedVariables false
set_option linter.unusedSimpArgs false
theorem ownEntity {w : World} {a0 a1 a2 a3 : Nat} {f0 : Int} {f1 : Int} {L2 : List Dat} {B2 : Option Addr} {n2 k2 : Nat} {f3 : Int} {f4_0 : Int} {f4_1 : Int} {L5 : List Dat} {B5 : Option Addr} {n5 k5 : Nat} {L6 : List Dat} {B6 : Option Addr} {n6 k6 : Nat} {f7 : Int} {f8 : Int} {f9 : Int} {f10 : Int} (hO2 : Owns w (.l L2) [.slice B2 n2 k2] (rng a0 a1)) (hO5 : Owns w (.l L5) [.slice B5 n5 k5] (rng a1 a2)) (hO6 : Owns w (.l L6) [.slice B6 n6 k6] (rng a2 a3)) (ha0 : a0 ≤ a1) (ha1 : a1 ≤ a2) (ha2 : a2 ≤ a3) : Owns w (.r [.i f0, .i f1, .l L2, .i f3, .r [.i f4_0, .i f4_1], .l L5, .l L6, .i f7, .i f8, .i f9, .i f10]) [.int .i64 f0, .int .i64 f1, .slice B2 n2 k2, .int .i64 f3, .int .i64 f4_0, .int .i64 f4_1, .slice B5 n5 k5, .slice B6 n6 k6, .int .i64 f7, .int .i64 f8, .int .i64 f9, .int .i64 f10] (rng a0 a3) := by
  rw [Owns]
  exact (OwnsAll.consF (c1 := [.int .i64 f0]) (d := .i f0) rfl (OwnsAll.consF (c1 := [.int .i64 f1]) (d := .i f1) rfl (OwnsAll.consI hO2 (OwnsAll.consF (c1 := [.int .i64 f3]) (d := .i f3) rfl (OwnsAll.consF (c1 := [.int .i64 f4_0, .int .i64 f4_1]) (d := .r [.i f4_0, .i f4_1]) (OwnsAll.consF (c1 := [.int .i64 f4_0]) (d := .i f4_0) rfl (OwnsAll.consF (c1 := [.int .i64 f4_1]) (d := .i f4_1) rfl (OwnsAll.nil_ _ _))) (OwnsAll.consI hO5 (OwnsAll.consI hO6 (OwnsAll.consF (c1 := [.int .i64 f7]) (d := .i f7) rfl (OwnsAll.consF (c1 := [.int .i64 f8]) (d := .i f8) rfl (OwnsAll.consF (c1 := [.int .i64 f9]) (d := .i f9) rfl (OwnsAll.consF (c1 := [.int .i64 f10]) (d := .i f10) rfl (OwnsAll.nil_ _ _))))) ha2 (by omega)) ha1 (by omega)))) ha0 (by omega))))
theorem zeroEntity (w : World) : Owns w (.r [.i 0, .i 0, .l [], .i 0, .r [.i 0, .i 0], .l [], .l [], .i 0, .i 0, .i 0, .i 0]) (#[.int .i64 0, .int .i64 0, .slice none 0 0, .int .i64 0, .int .i64 0, .int .i64 0, .slice none 0 0, .slice none 0 0, .int .i64 0, .int .i64 0, .int .i64 0, .int .i64 0] : Array Value).toList (fun _ => False) := by
  rw [Owns]
  exact (OwnsAll.consF (c1 := [.int .i64 0]) (d := .i 0) rfl (OwnsAll.consF (c1 := [.int .i64 0]) (d := .i 0) rfl (OwnsAll.consF (c1 := [.slice none 0 0]) (d := .l []) ⟨none, 0, 0, rfl, rfl, Or.inl rfl⟩ (OwnsAll.consF (c1 := [.int .i64 0]) (d := .i 0) rfl (OwnsAll.consF (c1 := [.int .i64 0, .int .i64 0]) (d := .r [.i 0, .i 0]) (OwnsAll.consF (c1 := [.int .i64 0]) (d := .i 0) rfl (OwnsAll.consF (c1 := [.int .i64 0]) (d := .i 0) rfl (OwnsAll.nil_ _ _))) (OwnsAll.consF (c1 := [.slice none 0 0]) (d := .l []) ⟨none, 0, 0, rfl, rfl, Or.inl rfl⟩ (OwnsAll.consF (c1 := [.slice none 0 0]) (d := .l []) ⟨none, 0, 0, rfl, rfl, Or.inl rfl⟩ (OwnsAll.consF (c1 := [.int .i64 0]) (d := .i 0) rfl (OwnsAll.consF (c1 := [.int .i64 0]) (d := .i 0) rfl (OwnsAll.consF (c1 := [.int .i64 0]) (d := .i 0) rfl (OwnsAll.consF (c1 := [.int .i64 0]) (d := .i 0) rfl (OwnsAll.nil_ _ _))))))))))))
theorem infoEntity : (Try.prog.info? 38).map (fun i => (i.zero, i.size, i.bytes)) = some (some (.agg #[.int .i64 0, .int .i64 0, .slice none 0 0, .int .i64 0, .int .i64 0, .int .i64 0, .slice none 0 0, .slice none 0 0, .int .i64 0, .int .i64 0, .int .i64 0, .int .i64 0]), 12, 144) := by kernel_rfl
set_option maxRecDepth 100000 in
set_option maxHeartbeats 4000000 in
theorem toEntityS (L : List Dat) (A : Option Addr) (n c : Nat) (w : World) (h : Lies w (.l L) [.slice A n c]) (ht : ∀ x ∈ L, Has tyEntity x) (hq : (Dat.l L).bulk ≤ 1099511627776) : Calls Try.prog 89 #[.slice A n c] w (FreshD L w) := by
  obtain ⟨i0, hi, hz0, hz1, hz2⟩ := info_parts infoEntity
  have H := Lib.hid h
  have HT := Lib.hid ht
  have hn : n ≤ 1099511627776 := by have := h.count; simp only [Dat.bulk] at hq; omega
  clear h ht
  go_enter Try.func89, Try.ntmps89
  go_wp2_with (refine wpList_make_full _ rfl _ _ 24 rfl w.heap.size 38 i0 (.agg #[.int .i64 0, .int .i64 0, .slice none 0 0, .int .i64 0, .int .i64 0, .int .i64 0, .slice none 0 0, .slice none 0 0, .int .i64 0, .int .i64 0, .int .i64 0, .int .i64 0]) 12 Try.underlying24 hi hz0 hz1 _ _ (n : Int) (n : Int) n rfl rfl rfl rfl (by rw [hz2]; omega) (by unfold maxLen; omega) (Nat.le_refl _) ?_)
  intro w1 hown hgrow
  have hU : UptoD w 12 L w.heap.size n 0 w1 := UptoD.start (zc := #[.int .i64 0, .int .i64 0, .slice none 0 0, .int .i64 0, .int .i64 0, .int .i64 0, .slice none 0 0, .slice none 0 0, .int .i64 0, .int .i64 0, .int .i64 0, .int .i64 0]) (zeroEntity) rfl hown (Nat.le_refl _) ((Below.refl w.heap.size w).grown hgrow (Nat.le_refl _) (fun k h => by cases h))
  clear hown hgrow
  go_wp2
  go_loopw [4] (fun iv wr => ∃ i : Nat, i ≤ n ∧ iv = .int .i64 i ∧ UptoD w 12 L w.heap.size n i wr) (fun iv _ => n - (intOf iv).toNat)
  case atStart => exact ⟨0, Nat.zero_le _, rfl, hU⟩
  case round =>
    obtain ⟨i, hin, rfl, hUr⟩ := hrel
    clear hU
    by_cases hlt : i < n
    · have hUr' := Lib.hid hUr
      obtain ⟨ds, B, -, -, -, -, -, hb⟩ := hUr
      obtain ⟨b, off, d, xs, rfl, hbw, hzi, hlie, hlen, hcell⟩ := (H.out.below hb).elem (fun x hx => (HT.out x hx).width) hlt
      obtain ⟨f0, f1, L2, A2, n2, c2, f3, f4_0, f4_1, L5, A5, n5, c5, L6, A6, n6, c6, f7, f8, f9, f10, rfl, rfl, hl2, ht2, hm2, hl5, ht5, hm5, hl6, ht6, hm6⟩ := invEntity (HT.out d (List.mem_of_getElem? hzi)) hlie
      have r0 : wr.cell? ⟨b, off + i * 12, none⟩ = some (.int .i64 f0) := hcell 0 _ rfl
      have r1 : wr.cell? ⟨b, off + i * 12 + 1, none⟩ = some (.int .i64 f1) := hcell 1 _ rfl
      have r2 : wr.cell? ⟨b, off + i * 12 + 2, none⟩ = some (.slice A2 n2 c2) := hcell 2 _ rfl
      have r3 : wr.cell? ⟨b, off + i * 12 + 3, none⟩ = some (.int .i64 f3) := hcell 3 _ rfl
      have r4 : wr.cell? ⟨b, off + i * 12 + 4, none⟩ = some (.int .i64 f4_0) := hcell 4 _ rfl
      have r5 : wr.cell? ⟨b, off + i * 12 + 5, none⟩ = some (.int .i64 f4_1) := hcell 5 _ rfl
      have r6 : wr.cell? ⟨b, off + i * 12 + 6, none⟩ = some (.slice A5 n5 c5) := hcell 6 _ rfl
      have r7 : wr.cell? ⟨b, off + i * 12 + 7, none⟩ = some (.slice A6 n6 c6) := hcell 7 _ rfl
      have r8 : wr.cell? ⟨b, off + i * 12 + 8, none⟩ = some (.int .i64 f7) := hcell 8 _ rfl
      have r9 : wr.cell? ⟨b, off + i * 12 + 9, none⟩ = some (.int .i64 f8) := hcell 9 _ rfl
      have r10 : wr.cell? ⟨b, off + i * 12 + 10, none⟩ = some (.int .i64 f9) := hcell 10 _ rfl
      have r11 : wr.cell? ⟨b, off + i * 12 + 11, none⟩ = some (.int .i64 f10) := hcell 11 _ rfl
      have hq2 : (Dat.l L2).bulk ≤ 1099511627776 := by have h1 := bulk_mem (List.mem_of_getElem? hzi); simp only [Dat.bulk, bulkAll] at h1 hq ⊢; omega
      have hq5 : (Dat.l L5).bulk ≤ 1099511627776 := by have h1 := bulk_mem (List.mem_of_getElem? hzi); simp only [Dat.bulk, bulkAll] at h1 hq ⊢; omega
      have hq6 : (Dat.l L6).bulk ≤ 1099511627776 := by have h1 := bulk_mem (List.mem_of_getElem? hzi); simp only [Dat.bulk, bulkAll] at h1 hq ⊢; omega
      have HZ := Lib.hid hzi
      have HW := Lib.hid ((HT.out _ (List.mem_of_getElem? hzi)).width)
      have HBR := Lib.hid hb
      have HL2 := Lib.hid hl2
      have HX2 := Lib.hid ht2
      have HL5 := Lib.hid hl5
      have HX5 := Lib.hid ht5
      have HL6 := Lib.hid hl6
      have HX6 := Lib.hid ht6
      clear hzi hb hcell hlie hl2 ht2 hl5 ht5 hl6 ht6
      go_wp2_with (
        with_reducible refine (toEntity f0 f1 L2 A2 n2 c2 f3 f4_0 f4_1 L5 A5 n5 c5 L6 A6 n6 c6 f7 f8 f9 f10 _ HL2.out HX2.out hq2 HL5.out HX5.out hq5 HL6.out HX6.out hq6).mono ?_
        rintro e w2 ⟨B2, k2, B5, k5, B6, k6, a1, a2, rfl, hO2, hO5, hO6, ha0, ha1, ha2, hb⟩
        have hsl := hUr'.out.slot hlt hb
        obtain ⟨u0, s0⟩ : ∃ u, w2.cell? ⟨w.heap.size, i * 12, none⟩ = some u := hsl.1 0 (by omega)
        have t0 := hsl.2 (i * 12)
        obtain ⟨u1, s1⟩ : ∃ u, w2.cell? ⟨w.heap.size, i * 12 + 1, none⟩ = some u := hsl.1 1 (by omega)
        have t1 := hsl.2 (i * 12 + 1)
        obtain ⟨u2, s2⟩ : ∃ u, w2.cell? ⟨w.heap.size, i * 12 + 2, none⟩ = some u := hsl.1 2 (by omega)
        have t2 := hsl.2 (i * 12 + 2)
        obtain ⟨u3, s3⟩ : ∃ u, w2.cell? ⟨w.heap.size, i * 12 + 3, none⟩ = some u := hsl.1 3 (by omega)
        have t3 := hsl.2 (i * 12 + 3)
        obtain ⟨u4, s4⟩ : ∃ u, w2.cell? ⟨w.heap.size, i * 12 + 4, none⟩ = some u := hsl.1 4 (by omega)
        have t4 := hsl.2 (i * 12 + 4)
        obtain ⟨u5, s5⟩ : ∃ u, w2.cell? ⟨w.heap.size, i * 12 + 5, none⟩ = some u := hsl.1 5 (by omega)
        have t5 := hsl.2 (i * 12 + 5)
        obtain ⟨u6, s6⟩ : ∃ u, w2.cell? ⟨w.heap.size, i * 12 + 6, none⟩ = some u := hsl.1 6 (by omega)
        have t6 := hsl.2 (i * 12 + 6)
        obtain ⟨u7, s7⟩ : ∃ u, w2.cell? ⟨w.heap.size, i * 12 + 7, none⟩ = some u := hsl.1 7 (by omega)
        have t7 := hsl.2 (i * 12 + 7)
        obtain ⟨u8, s8⟩ : ∃ u, w2.cell? ⟨w.heap.size, i * 12 + 8, none⟩ = some u := hsl.1 8 (by omega)
        have t8 := hsl.2 (i * 12 + 8)
        obtain ⟨u9, s9⟩ : ∃ u, w2.cell? ⟨w.heap.size, i * 12 + 9, none⟩ = some u := hsl.1 9 (by omega)
        have t9 := hsl.2 (i * 12 + 9)
        obtain ⟨u10, s10⟩ : ∃ u, w2.cell? ⟨w.heap.size, i * 12 + 10, none⟩ = some u := hsl.1 10 (by omega)
        have t10 := hsl.2 (i * 12 + 10)
        obtain ⟨u11, s11⟩ : ∃ u, w2.cell? ⟨w.heap.size, i * 12 + 11, none⟩ = some u := hsl.1 11 (by omega)
        have t11 := hsl.2 (i * 12 + 11)
        have HN := Lib.hid (UptoD.next hUr'.out hlt HZ.out HW.out (ownEntity hO2 hO5 hO6 ha0 ha1 ha2) (fun b hb => hb) hb)
        clear hsl hb hO2 hO5 hO6)
      go_roundw
      case rel => exact ⟨i + 1, by omega, by go_num, HN.out⟩
      case measure => simp [intOf]; omega
    · obtain rfl : i = n := by omega
      have hUr' := Lib.hid hUr
      clear hUr
      go_wp2_with fail
      go_ret
      exact hUr'.out.ret H.out.count
end Go.Proofs.Ytmeacgpebpfpbaa
