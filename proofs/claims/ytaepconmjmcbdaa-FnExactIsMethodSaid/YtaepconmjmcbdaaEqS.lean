/- The laws' comparisons of data that read alike. -/
import Derived.Test.YtaepconmjmcbdaaTyS
import Derived.LoopTactic
import Derived.Lib.Hide
import Derived.Deep.QuietTactic
import Derived.BigQuiet
import Derived.Deep.RegionWith
import Derived.Handy
namespace Go.Proofs.Ytaepconmjmcbdaa
open Go.RowKit
set_option linter.unusedVariables false
set_option linter.unusedSimpArgs false
theorem Lies.drew {w : World} {d : Dat} {cs : List Value} (h : Lies w d cs) : Lies w.drew d cs := h.below (Below.refl _ _).drew
set_option maxHeartbeats 1000000 in
theorem eqInstr (f0 : Int) (f1 : Int) (f2 : Int) (f3 : Int) (f4 : Int) (f5 : ByteArray) (w : World) : Calls Try.prog 92 #[.agg #[.int .i64 f0, .int .i64 f1, .int .i64 f2, .int .i64 f3, .int .i64 f4, .string f5], .agg #[.int .i64 f0, .int .i64 f1, .int .i64 f2, .int .i64 f3, .int .i64 f4, .string f5]] w (GivesBool true w) := by
  go_enter Try.func92, Try.ntmps92
  go_wp2
  go_ret
  exact GivesBool.ret (by go_grown)
set_option maxRecDepth 100000 in
set_option maxHeartbeats 2000000 in
theorem eqInstrS (L : List Dat) (A A' : Option Addr) (n n' c c' : Nat) (w : World) (h : Lies w (.l L) [.slice A n c]) (h' : Lies w (.l L) [.slice A' n' c']) (ht : ∀ x ∈ L, Has tyInstr x) (hn : n ≤ 9223372036854775807) : Calls Try.prog 67 #[.slice A n c, .slice A' n' c'] w (GivesBool true w) := by
  obtain rfl : n = n' := by rw [← h.count, ← h'.count]
  have H := Lib.hid h
  have H' := Lib.hid h'
  have HT := Lib.hid ht
  clear h h' ht
  go_enter Try.func67, Try.ntmps67
  go_wp2
  go_loopw [5] (fun iv wr => ∃ i : Nat, i ≤ n ∧ iv = .int .i64 i ∧ Below w.heap.size w wr) (fun iv _ => n - (intOf iv).toNat)
  case atStart => exact ⟨0, Nat.zero_le _, rfl, Below.refl _ _⟩
  case round =>
    obtain ⟨i, hin, rfl, hb⟩ := hrel
    by_cases hlt : i < n
    · obtain ⟨b, off, d, xs, rfl, hbw, hzi, hlie, hlen, hcellr⟩ := (H.out.below hb).elem (fun x hx => (HT.out x hx).width) hlt
      obtain ⟨b', off', d', xs', rfl, hbw', hzi', hlie', hlen', hcells⟩ := (H'.out.below hb).elem (fun x hx => (HT.out x hx).width) hlt
      obtain rfl : d = d' := by rw [hzi] at hzi'; exact Option.some.inj hzi'
      obtain ⟨g0, g1, g2, g3, g4, g5, hdd, rfl, _hf5⟩ := invInstr (HT.out d (List.mem_of_getElem? hzi)) hlie'
      obtain ⟨f0, f1, f2, f3, f4, f5, rfl, rfl, hf5⟩ := invInstr (HT.out d (List.mem_of_getElem? hzi)) hlie
      simp only [Dat.r.injEq, List.cons.injEq, and_true] at hdd
      obtain ⟨e0, e1, e2, e3, e4, e5⟩ := hdd
      obtain rfl : f0 = g0 := by injection e0
      obtain rfl : f1 = g1 := by injection e1
      obtain rfl : f2 = g2 := by injection e2
      obtain rfl : f3 = g3 := by injection e3
      obtain rfl : f4 = g4 := by injection e4
      obtain rfl : f5 = g5 := by injection e5
      have r0 : wr.cell? ⟨b, off + i * 6, none⟩ = some (.int .i64 f0) := hcellr 0 _ rfl
      have r1 : wr.cell? ⟨b, off + i * 6 + 1, none⟩ = some (.int .i64 f1) := hcellr 1 _ rfl
      have r2 : wr.cell? ⟨b, off + i * 6 + 2, none⟩ = some (.int .i64 f2) := hcellr 2 _ rfl
      have r3 : wr.cell? ⟨b, off + i * 6 + 3, none⟩ = some (.int .i64 f3) := hcellr 3 _ rfl
      have r4 : wr.cell? ⟨b, off + i * 6 + 4, none⟩ = some (.int .i64 f4) := hcellr 4 _ rfl
      have r5 : wr.cell? ⟨b, off + i * 6 + 5, none⟩ = some (.string f5) := hcellr 5 _ rfl
      have s0 : wr.cell? ⟨b', off' + i * 6, none⟩ = some (.int .i64 f0) := hcells 0 _ rfl
      have s1 : wr.cell? ⟨b', off' + i * 6 + 1, none⟩ = some (.int .i64 f1) := hcells 1 _ rfl
      have s2 : wr.cell? ⟨b', off' + i * 6 + 2, none⟩ = some (.int .i64 f2) := hcells 2 _ rfl
      have s3 : wr.cell? ⟨b', off' + i * 6 + 3, none⟩ = some (.int .i64 f3) := hcells 3 _ rfl
      have s4 : wr.cell? ⟨b', off' + i * 6 + 4, none⟩ = some (.int .i64 f4) := hcells 4 _ rfl
      have s5 : wr.cell? ⟨b', off' + i * 6 + 5, none⟩ = some (.string f5) := hcells 5 _ rfl
      have HBR := Lib.hid hb
      clear hzi hzi' hb hcellr hcells hlie hlie'
      go_wp2_with fail
      go_region_with (
        go_at_call 92
        refine (eqInstr f0 f1 f2 f3 f4 f5 _).mono ?_
        rintro e w2 ⟨rfl, hb2⟩
        have HB2 : Hid (Below w.heap.size w w2) := Lib.hid (HBR.out.drew.trans (hb2.mono HBR.out.size))
        clear hb2)
      all_goals (
        go_wp2_with fail
        go_roundw
        case rel => exact ⟨i + 1, by omega, by go_num, HB2.out⟩
        case measure => simp [intOf]; omega)
    · have HB := Lib.hid hb
      clear hb
      go_wp2
      go_ret
      exact GivesBool.ret HB.out
set_option maxHeartbeats 1000000 in
theorem eqMethod (f0 : ByteArray) (L1 : List Dat) (A1 : Option Addr) (n1 c1 : Nat) (B1 : Option Addr) (k1 : Nat) (w : World) (hl1 : Lies w (.l L1) [.slice A1 n1 c1]) (hr1 : Lies w (.l L1) [.slice B1 n1 k1]) (ht1 : ∀ x ∈ L1, Has tyInstr x) (hm1 : n1 ≤ 9223372036854775807) : Calls Try.prog 28 #[.agg #[.string f0, .slice A1 n1 c1], .agg #[.string f0, .slice B1 n1 k1]] w (GivesBool true w) := by
  have hb0 : Below w.heap.size w ((w.alloc (.cells #[.string f0, .slice A1 n1 c1] 29)).alloc (.cells #[.string f0, .slice B1 n1 k1] 29)) := by go_grown
  have HL := Lib.hid (hl1.below hb0)
  have HR := Lib.hid (hr1.below hb0)
  have HT := Lib.hid ht1
  have HB0 := Lib.hid hb0
  clear hl1 hr1 ht1 hb0
  go_enter Try.func28, Try.ntmps28
  go_wp2_with fail
  refine (eqInstrS L1 A1 B1 n1 n1 c1 k1 _ HL.out HR.out HT.out hm1).mono ?_
  rintro e w1 ⟨rfl, hb⟩
  have HB := Lib.hid (HB0.out.trans (hb.mono (by simp; try omega)))
  clear hb
  go_wp2_with fail
  go_ret
  exact GivesBool.ret HB.out
set_option maxRecDepth 100000 in
set_option maxHeartbeats 2000000 in
theorem eqMethodS (L : List Dat) (A A' : Option Addr) (n n' c c' : Nat) (w : World) (h : Lies w (.l L) [.slice A n c]) (h' : Lies w (.l L) [.slice A' n' c']) (ht : ∀ x ∈ L, Has tyMethod x) (hn : n ≤ 9223372036854775807) : Calls Try.prog 70 #[.slice A n c, .slice A' n' c'] w (GivesBool true w) := by
  obtain rfl : n = n' := by rw [← h.count, ← h'.count]
  have H := Lib.hid h
  have H' := Lib.hid h'
  have HT := Lib.hid ht
  clear h h' ht
  go_enter Try.func70, Try.ntmps70
  go_wp2
  go_loopw [5] (fun iv wr => ∃ i : Nat, i ≤ n ∧ iv = .int .i64 i ∧ Below w.heap.size w wr) (fun iv _ => n - (intOf iv).toNat)
  case atStart => exact ⟨0, Nat.zero_le _, rfl, Below.refl _ _⟩
  case round =>
    obtain ⟨i, hin, rfl, hb⟩ := hrel
    by_cases hlt : i < n
    · obtain ⟨b, off, d, xs, rfl, hbw, hzi, hlie, hlen, hcellr⟩ := (H.out.below hb).elem (fun x hx => (HT.out x hx).width) hlt
      obtain ⟨b', off', d', xs', rfl, hbw', hzi', hlie', hlen', hcells⟩ := (H'.out.below hb).elem (fun x hx => (HT.out x hx).width) hlt
      obtain rfl : d = d' := by rw [hzi] at hzi'; exact Option.some.inj hzi'
      obtain ⟨g0, M1, B1, m1, k1, hdd, rfl, _hf0, hr1, _hu1, _hv1⟩ := invMethod (HT.out d (List.mem_of_getElem? hzi)) hlie'
      obtain ⟨f0, L1, A1, n1, c1, rfl, rfl, hf0, hl1, ht1, hm1⟩ := invMethod (HT.out d (List.mem_of_getElem? hzi)) hlie
      simp only [Dat.r.injEq, List.cons.injEq, and_true] at hdd
      obtain ⟨e0, e1⟩ := hdd
      obtain rfl : f0 = g0 := by injection e0
      obtain rfl : L1 = M1 := by injection e1
      obtain rfl : n1 = m1 := by rw [← hl1.count, ← hr1.count]
      have r0 : wr.cell? ⟨b, off + i * 2, none⟩ = some (.string f0) := hcellr 0 _ rfl
      have r1 : wr.cell? ⟨b, off + i * 2 + 1, none⟩ = some (.slice A1 n1 c1) := hcellr 1 _ rfl
      have s0 : wr.cell? ⟨b', off' + i * 2, none⟩ = some (.string f0) := hcells 0 _ rfl
      have s1 : wr.cell? ⟨b', off' + i * 2 + 1, none⟩ = some (.slice B1 n1 k1) := hcells 1 _ rfl
      have HBR := Lib.hid hb
      have HL1 := Lib.hid (hl1.drew)
      have HR1 := Lib.hid (hr1.drew)
      have HX1 := Lib.hid ht1
      clear hzi hzi' hb hcellr hcells hlie hlie' hl1 hr1 ht1 _hu1
      go_wp2_with fail
      go_region_with (
        go_at_call 28
        refine (eqMethod f0 L1 A1 n1 c1 B1 k1 _ HL1.out HR1.out HX1.out hm1).mono ?_
        rintro e w2 ⟨rfl, hb2⟩
        have HB2 : Hid (Below w.heap.size w w2) := Lib.hid (HBR.out.drew.trans (hb2.mono HBR.out.size))
        clear hb2)
      all_goals (
        go_wp2_with fail
        go_roundw
        case rel => exact ⟨i + 1, by omega, by go_num, HB2.out⟩
        case measure => simp [intOf]; omega)
    · have HB := Lib.hid hb
      clear hb
      go_wp2
      go_ret
      exact GivesBool.ret HB.out
set_option maxHeartbeats 1000000 in
theorem eqScript (f0 : ByteArray) (L1 : List Dat) (A1 : Option Addr) (n1 c1 : Nat) (B1 : Option Addr) (k1 : Nat) (w : World) (hl1 : Lies w (.l L1) [.slice A1 n1 c1]) (hr1 : Lies w (.l L1) [.slice B1 n1 k1]) (ht1 : ∀ x ∈ L1, Has tyMethod x) (hm1 : n1 ≤ 9223372036854775807) : Calls Try.prog 31 #[.agg #[.string f0, .slice A1 n1 c1], .agg #[.string f0, .slice B1 n1 k1]] w (GivesBool true w) := by
  have hb0 : Below w.heap.size w ((w.alloc (.cells #[.string f0, .slice A1 n1 c1] 34)).alloc (.cells #[.string f0, .slice B1 n1 k1] 34)) := by go_grown
  have HL := Lib.hid (hl1.below hb0)
  have HR := Lib.hid (hr1.below hb0)
  have HT := Lib.hid ht1
  have HB0 := Lib.hid hb0
  clear hl1 hr1 ht1 hb0
  go_enter Try.func31, Try.ntmps31
  go_wp2_with fail
  refine (eqMethodS L1 A1 B1 n1 n1 c1 k1 _ HL.out HR.out HT.out hm1).mono ?_
  rintro e w1 ⟨rfl, hb⟩
  have HB := Lib.hid (HB0.out.trans (hb.mono (by simp; try omega)))
  clear hb
  go_wp2_with fail
  go_ret
  exact GivesBool.ret HB.out
set_option maxRecDepth 100000 in
set_option maxHeartbeats 2000000 in
theorem eqScriptS (L : List Dat) (A A' : Option Addr) (n n' c c' : Nat) (w : World) (h : Lies w (.l L) [.slice A n c]) (h' : Lies w (.l L) [.slice A' n' c']) (ht : ∀ x ∈ L, Has tyScript x) (hn : n ≤ 9223372036854775807) : Calls Try.prog 34 #[.slice A n c, .slice A' n' c'] w (GivesBool true w) := by
  obtain rfl : n = n' := by rw [← h.count, ← h'.count]
  have H := Lib.hid h
  have H' := Lib.hid h'
  have HT := Lib.hid ht
  clear h h' ht
  go_enter Try.func34, Try.ntmps34
  go_wp2
  go_loopw [5] (fun iv wr => ∃ i : Nat, i ≤ n ∧ iv = .int .i64 i ∧ Below w.heap.size w wr) (fun iv _ => n - (intOf iv).toNat)
  case atStart => exact ⟨0, Nat.zero_le _, rfl, Below.refl _ _⟩
  case round =>
    obtain ⟨i, hin, rfl, hb⟩ := hrel
    by_cases hlt : i < n
    · obtain ⟨b, off, d, xs, rfl, hbw, hzi, hlie, hlen, hcellr⟩ := (H.out.below hb).elem (fun x hx => (HT.out x hx).width) hlt
      obtain ⟨b', off', d', xs', rfl, hbw', hzi', hlie', hlen', hcells⟩ := (H'.out.below hb).elem (fun x hx => (HT.out x hx).width) hlt
      obtain rfl : d = d' := by rw [hzi] at hzi'; exact Option.some.inj hzi'
      obtain ⟨g0, M1, B1, m1, k1, hdd, rfl, _hf0, hr1, _hu1, _hv1⟩ := invScript (HT.out d (List.mem_of_getElem? hzi)) hlie'
      obtain ⟨f0, L1, A1, n1, c1, rfl, rfl, hf0, hl1, ht1, hm1⟩ := invScript (HT.out d (List.mem_of_getElem? hzi)) hlie
      simp only [Dat.r.injEq, List.cons.injEq, and_true] at hdd
      obtain ⟨e0, e1⟩ := hdd
      obtain rfl : f0 = g0 := by injection e0
      obtain rfl : L1 = M1 := by injection e1
      obtain rfl : n1 = m1 := by rw [← hl1.count, ← hr1.count]
      have r0 : wr.cell? ⟨b, off + i * 2, none⟩ = some (.string f0) := hcellr 0 _ rfl
      have r1 : wr.cell? ⟨b, off + i * 2 + 1, none⟩ = some (.slice A1 n1 c1) := hcellr 1 _ rfl
      have s0 : wr.cell? ⟨b', off' + i * 2, none⟩ = some (.string f0) := hcells 0 _ rfl
      have s1 : wr.cell? ⟨b', off' + i * 2 + 1, none⟩ = some (.slice B1 n1 k1) := hcells 1 _ rfl
      have HBR := Lib.hid hb
      have HL1 := Lib.hid (hl1.drew)
      have HR1 := Lib.hid (hr1.drew)
      have HX1 := Lib.hid ht1
      clear hzi hzi' hb hcellr hcells hlie hlie' hl1 hr1 ht1 _hu1
      go_wp2_with fail
      go_region_with (
        go_at_call 31
        refine (eqScript f0 L1 A1 n1 c1 B1 k1 _ HL1.out HR1.out HX1.out hm1).mono ?_
        rintro e w2 ⟨rfl, hb2⟩
        have HB2 : Hid (Below w.heap.size w w2) := Lib.hid (HBR.out.drew.trans (hb2.mono HBR.out.size))
        clear hb2)
      all_goals (
        go_wp2_with fail
        go_roundw
        case rel => exact ⟨i + 1, by omega, by go_num, HB2.out⟩
        case measure => simp [intOf]; omega)
    · have HB := Lib.hid hb
      clear hb
      go_wp2
      go_ret
      exact GivesBool.ret HB.out
end Go.Proofs.Ytaepconmjmcbdaa
