/- Chapter 9's data, by program. -/
import Derived.Test.YtmeacgpebpfpbaaTyT
import Derived.Test.YtmeacgpebpfpbaaTyE1
import Derived.LoopTactic
import Derived.Lib.Hide
import Derived.Deep.QuietTactic
import Derived.BigQuiet
import Derived.Deep.RegionWith
import Derived.Handy
namespace Go.Proofs.Ytmeacgpebpfpbaa
open Go.RowKit
set_option linter.unusedVariables false
set_option linter.unusedSimpArgs false
set_option maxHeartbeats 4000000 in
theorem eqValue (f0 : Int) (f1 : Int) (w : World) : Calls Try.prog 34 #[.agg #[.int .i64 f0, .int .i64 f1], .agg #[.int .i64 f0, .int .i64 f1]] w (GivesBool true w) := by
  go_enter Try.func34, Try.ntmps34
  go_wp2
  go_ret
  exact GivesBool.ret (by go_grown)
set_option maxRecDepth 100000 in
set_option maxHeartbeats 4000000 in
theorem eqValueS (L : List Dat) (A A' : Option Addr) (n n' c c' : Nat) (w : World) (h : Lies w (.l L) [.slice A n c]) (h' : Lies w (.l L) [.slice A' n' c']) (ht : ∀ x ∈ L, Has tyValue x) (hn : n ≤ 9223372036854775807) : Calls Try.prog 101 #[.slice A n c, .slice A' n' c'] w (GivesBool true w) := by
  obtain rfl : n = n' := by rw [← h.count, ← h'.count]
  have H := Lib.hid h
  have H' := Lib.hid h'
  have HT := Lib.hid ht
  clear h h' ht
  go_enter Try.func101, Try.ntmps101
  go_wp2
  go_loopw [5] (fun iv wr => ∃ i : Nat, i ≤ n ∧ iv = .int .i64 i ∧ Below w.heap.size w wr) (fun iv _ => n - (intOf iv).toNat)
  case atStart => exact ⟨0, Nat.zero_le _, rfl, Below.refl _ _⟩
  case round =>
    obtain ⟨i, hin, rfl, hb⟩ := hrel
    by_cases hlt : i < n
    · obtain ⟨b, off, d, xs, rfl, hbw, hzi, hlie, hlen, hcellr⟩ := (H.out.below hb).elem (fun x hx => (HT.out x hx).width) hlt
      obtain ⟨b', off', d', xs', rfl, hbw', hzi', hlie', hlen', hcells⟩ := (H'.out.below hb).elem (fun x hx => (HT.out x hx).width) hlt
      obtain rfl : d = d' := by rw [hzi] at hzi'; exact Option.some.inj hzi'
      obtain ⟨g0, g1, hdd, rfl⟩ := invValue (HT.out d (List.mem_of_getElem? hzi)) hlie'
      obtain ⟨f0, f1, rfl, rfl⟩ := invValue (HT.out d (List.mem_of_getElem? hzi)) hlie
      simp only [Dat.r.injEq, List.cons.injEq, and_true] at hdd
      obtain ⟨e0, e1⟩ := hdd
      obtain rfl : f0 = g0 := by injection e0
      obtain rfl : f1 = g1 := by injection e1
      have r0 : wr.cell? ⟨b, off + i * 2, none⟩ = some (.int .i64 f0) := hcellr 0 _ rfl
      have r1 : wr.cell? ⟨b, off + i * 2 + 1, none⟩ = some (.int .i64 f1) := hcellr 1 _ rfl
      have s0 : wr.cell? ⟨b', off' + i * 2, none⟩ = some (.int .i64 f0) := hcells 0 _ rfl
      have s1 : wr.cell? ⟨b', off' + i * 2 + 1, none⟩ = some (.int .i64 f1) := hcells 1 _ rfl
      have HBR := Lib.hid hb
      clear hzi hzi' hb hcellr hcells hlie hlie'
      go_wp2_with fail
      go_region_with (
        go_at_call 34
        refine (eqValue f0 f1 _).mono ?_
        rintro e w2 ⟨rfl, hb2⟩
        have HB2 : Hid (Below w.heap.size w w2) := Lib.hid (HBR.out.drew.trans (hb2.mono HBR.out.size))
        clear hb2)
      all_goals (
        go_wp2_with fail
        go_roundw
        case rel => exact ⟨i + 1, by omega, by go_num, HB2.out⟩
        case measure => simp [intOf]; omega)
    · have HB := Lib.hid hb
      clear hb
      go_wp2
      go_ret
      exact GivesBool.ret HB.out
set_option maxHeartbeats 4000000 in
theorem eqSent (f0 : Int) (f1 : ByteArray) (L2 : List Dat) (A2 : Option Addr) (n2 c2 : Nat) (f3 : Int) (f4_0 : Int) (f4_1 : Int) (f4_2 : Int) (B2 : Option Addr) (k2 : Nat) (w : World) (hl2 : Lies w (.l L2) [.slice A2 n2 c2]) (hr2 : Lies w (.l L2) [.slice B2 n2 k2]) (ht2 : ∀ x ∈ L2, Has tyValue x) (hm2 : n2 ≤ 9223372036854775807) : Calls Try.prog 135 #[.agg #[.int .i64 f0, .string f1, .slice A2 n2 c2, .int .i64 f3, .int .i64 f4_0, .int .i64 f4_1, .int .i64 f4_2], .agg #[.int .i64 f0, .string f1, .slice B2 n2 k2, .int .i64 f3, .int .i64 f4_0, .int .i64 f4_1, .int .i64 f4_2]] w (GivesBool true w) := by
  have HL2 := Lib.hid hl2
  have HR2 := Lib.hid hr2
  have HT2 := Lib.hid ht2
  clear hl2 hr2 ht2
  have X := ((Held.start w).push #[.int .i64 f0, .string f1, .slice A2 n2 c2, .int .i64 f3, .int .i64 f4_0, .int .i64 f4_1, .int .i64 f4_2] 153).push #[.int .i64 f0, .string f1, .slice B2 n2 k2, .int .i64 f3, .int .i64 f4_0, .int .i64 f4_1, .int .i64 f4_2] 153
  simp only [World.size_alloc] at X
  replace X := Lib.hid X
  go_enter Try.func135, Try.ntmps135
  go_wp2_with fail
  refine (eqValueS L2 A2 B2 n2 n2 c2 k2 _ (HL2.out.below X.out.1) (HR2.out.below X.out.1) HT2.out hm2).mono ?_
  rintro e w1 ⟨rfl, hb⟩
  replace X := Lib.hid (X.out.below hb)
  clear hb
  have x0 := X.out.at_ (g := w.heap.size) (i := 0) (v := .int .i64 f0) (cs := [.int .i64 f0, .string f1, .slice A2 n2 c2, .int .i64 f3, .int .i64 f4_0, .int .i64 f4_1, .int .i64 f4_2]) (by repeat (first | exact List.mem_cons_self | refine List.mem_cons_of_mem _ ?_)) rfl
  have y0 := X.out.at_ (g := w.heap.size + 1) (i := 0) (v := .int .i64 f0) (cs := [.int .i64 f0, .string f1, .slice B2 n2 k2, .int .i64 f3, .int .i64 f4_0, .int .i64 f4_1, .int .i64 f4_2]) (by repeat (first | exact List.mem_cons_self | refine List.mem_cons_of_mem _ ?_)) rfl
  have x1 := X.out.at_ (g := w.heap.size) (i := 1) (v := .string f1) (cs := [.int .i64 f0, .string f1, .slice A2 n2 c2, .int .i64 f3, .int .i64 f4_0, .int .i64 f4_1, .int .i64 f4_2]) (by repeat (first | exact List.mem_cons_self | refine List.mem_cons_of_mem _ ?_)) rfl
  have y1 := X.out.at_ (g := w.heap.size + 1) (i := 1) (v := .string f1) (cs := [.int .i64 f0, .string f1, .slice B2 n2 k2, .int .i64 f3, .int .i64 f4_0, .int .i64 f4_1, .int .i64 f4_2]) (by repeat (first | exact List.mem_cons_self | refine List.mem_cons_of_mem _ ?_)) rfl
  have x2 := X.out.at_ (g := w.heap.size) (i := 2) (v := .slice A2 n2 c2) (cs := [.int .i64 f0, .string f1, .slice A2 n2 c2, .int .i64 f3, .int .i64 f4_0, .int .i64 f4_1, .int .i64 f4_2]) (by repeat (first | exact List.mem_cons_self | refine List.mem_cons_of_mem _ ?_)) rfl
  have y2 := X.out.at_ (g := w.heap.size + 1) (i := 2) (v := .slice B2 n2 k2) (cs := [.int .i64 f0, .string f1, .slice B2 n2 k2, .int .i64 f3, .int .i64 f4_0, .int .i64 f4_1, .int .i64 f4_2]) (by repeat (first | exact List.mem_cons_self | refine List.mem_cons_of_mem _ ?_)) rfl
  have x3 := X.out.at_ (g := w.heap.size) (i := 3) (v := .int .i64 f3) (cs := [.int .i64 f0, .string f1, .slice A2 n2 c2, .int .i64 f3, .int .i64 f4_0, .int .i64 f4_1, .int .i64 f4_2]) (by repeat (first | exact List.mem_cons_self | refine List.mem_cons_of_mem _ ?_)) rfl
  have y3 := X.out.at_ (g := w.heap.size + 1) (i := 3) (v := .int .i64 f3) (cs := [.int .i64 f0, .string f1, .slice B2 n2 k2, .int .i64 f3, .int .i64 f4_0, .int .i64 f4_1, .int .i64 f4_2]) (by repeat (first | exact List.mem_cons_self | refine List.mem_cons_of_mem _ ?_)) rfl
  have x4 := X.out.at_ (g := w.heap.size) (i := 4) (v := .int .i64 f4_0) (cs := [.int .i64 f0, .string f1, .slice A2 n2 c2, .int .i64 f3, .int .i64 f4_0, .int .i64 f4_1, .int .i64 f4_2]) (by repeat (first | exact List.mem_cons_self | refine List.mem_cons_of_mem _ ?_)) rfl
  have y4 := X.out.at_ (g := w.heap.size + 1) (i := 4) (v := .int .i64 f4_0) (cs := [.int .i64 f0, .string f1, .slice B2 n2 k2, .int .i64 f3, .int .i64 f4_0, .int .i64 f4_1, .int .i64 f4_2]) (by repeat (first | exact List.mem_cons_self | refine List.mem_cons_of_mem _ ?_)) rfl
  have x5 := X.out.at_ (g := w.heap.size) (i := 5) (v := .int .i64 f4_1) (cs := [.int .i64 f0, .string f1, .slice A2 n2 c2, .int .i64 f3, .int .i64 f4_0, .int .i64 f4_1, .int .i64 f4_2]) (by repeat (first | exact List.mem_cons_self | refine List.mem_cons_of_mem _ ?_)) rfl
  have y5 := X.out.at_ (g := w.heap.size + 1) (i := 5) (v := .int .i64 f4_1) (cs := [.int .i64 f0, .string f1, .slice B2 n2 k2, .int .i64 f3, .int .i64 f4_0, .int .i64 f4_1, .int .i64 f4_2]) (by repeat (first | exact List.mem_cons_self | refine List.mem_cons_of_mem _ ?_)) rfl
  have x6 := X.out.at_ (g := w.heap.size) (i := 6) (v := .int .i64 f4_2) (cs := [.int .i64 f0, .string f1, .slice A2 n2 c2, .int .i64 f3, .int .i64 f4_0, .int .i64 f4_1, .int .i64 f4_2]) (by repeat (first | exact List.mem_cons_self | refine List.mem_cons_of_mem _ ?_)) rfl
  have y6 := X.out.at_ (g := w.heap.size + 1) (i := 6) (v := .int .i64 f4_2) (cs := [.int .i64 f0, .string f1, .slice B2 n2 k2, .int .i64 f3, .int .i64 f4_0, .int .i64 f4_1, .int .i64 f4_2]) (by repeat (first | exact List.mem_cons_self | refine List.mem_cons_of_mem _ ?_)) rfl
  go_wp2_with fail
  refine (eqTag f4_0 f4_1 f4_2 _).mono ?_
  rintro e w2 ⟨rfl, hb⟩
  clear x0 x1 x2 x3 x4 x5 x6 y0 y1 y2 y3 y4 y5 y6
  replace X := Lib.hid (X.out.below hb)
  clear hb
  go_wp2_with fail
  go_ret
  exact GivesBool.ret X.out.1
set_option maxRecDepth 100000 in
set_option maxHeartbeats 4000000 in
theorem eqSentS (L : List Dat) (A A' : Option Addr) (n n' c c' : Nat) (w : World) (h : Lies w (.l L) [.slice A n c]) (h' : Lies w (.l L) [.slice A' n' c']) (ht : ∀ x ∈ L, Has tySent x) (hn : n ≤ 9223372036854775807) : Calls Try.prog 74 #[.slice A n c, .slice A' n' c'] w (GivesBool true w) := by
  obtain rfl : n = n' := by rw [← h.count, ← h'.count]
  have H := Lib.hid h
  have H' := Lib.hid h'
  have HT := Lib.hid ht
  clear h h' ht
  go_enter Try.func74, Try.ntmps74
  go_wp2
  go_loopw [5] (fun iv wr => ∃ i : Nat, i ≤ n ∧ iv = .int .i64 i ∧ Below w.heap.size w wr) (fun iv _ => n - (intOf iv).toNat)
  case atStart => exact ⟨0, Nat.zero_le _, rfl, Below.refl _ _⟩
  case round =>
    obtain ⟨i, hin, rfl, hb⟩ := hrel
    by_cases hlt : i < n
    · obtain ⟨b, off, d, xs, rfl, hbw, hzi, hlie, hlen, hcellr⟩ := (H.out.below hb).elem (fun x hx => (HT.out x hx).width) hlt
      obtain ⟨b', off', d', xs', rfl, hbw', hzi', hlie', hlen', hcells⟩ := (H'.out.below hb).elem (fun x hx => (HT.out x hx).width) hlt
      obtain rfl : d = d' := by rw [hzi] at hzi'; exact Option.some.inj hzi'
      obtain ⟨g0, g1, M2, B2, m2, k2, g3, g4_0, g4_1, g4_2, hdd, rfl, _hf1, hr2, _hu2, _hv2⟩ := invSent (HT.out d (List.mem_of_getElem? hzi)) hlie'
      obtain ⟨f0, f1, L2, A2, n2, c2, f3, f4_0, f4_1, f4_2, rfl, rfl, hf1, hl2, ht2, hm2⟩ := invSent (HT.out d (List.mem_of_getElem? hzi)) hlie
      simp only [Dat.r.injEq, List.cons.injEq, and_true] at hdd
      obtain ⟨e0, e1, e2, e3, ⟨e4_0, e4_1, e4_2⟩⟩ := hdd
      obtain rfl : f0 = g0 := by injection e0
      obtain rfl : f1 = g1 := by injection e1
      obtain rfl : L2 = M2 := by injection e2
      obtain rfl : n2 = m2 := by rw [← hl2.count, ← hr2.count]
      obtain rfl : f3 = g3 := by injection e3
      obtain rfl : f4_0 = g4_0 := by injection e4_0
      obtain rfl : f4_1 = g4_1 := by injection e4_1
      obtain rfl : f4_2 = g4_2 := by injection e4_2
      have r0 : wr.cell? ⟨b, off + i * 7, none⟩ = some (.int .i64 f0) := hcellr 0 _ rfl
      have r1 : wr.cell? ⟨b, off + i * 7 + 1, none⟩ = some (.string f1) := hcellr 1 _ rfl
      have r2 : wr.cell? ⟨b, off + i * 7 + 2, none⟩ = some (.slice A2 n2 c2) := hcellr 2 _ rfl
      have r3 : wr.cell? ⟨b, off + i * 7 + 3, none⟩ = some (.int .i64 f3) := hcellr 3 _ rfl
      have r4 : wr.cell? ⟨b, off + i * 7 + 4, none⟩ = some (.int .i64 f4_0) := hcellr 4 _ rfl
      have r5 : wr.cell? ⟨b, off + i * 7 + 5, none⟩ = some (.int .i64 f4_1) := hcellr 5 _ rfl
      have r6 : wr.cell? ⟨b, off + i * 7 + 6, none⟩ = some (.int .i64 f4_2) := hcellr 6 _ rfl
      have s0 : wr.cell? ⟨b', off' + i * 7, none⟩ = some (.int .i64 f0) := hcells 0 _ rfl
      have s1 : wr.cell? ⟨b', off' + i * 7 + 1, none⟩ = some (.string f1) := hcells 1 _ rfl
      have s2 : wr.cell? ⟨b', off' + i * 7 + 2, none⟩ = some (.slice B2 n2 k2) := hcells 2 _ rfl
      have s3 : wr.cell? ⟨b', off' + i * 7 + 3, none⟩ = some (.int .i64 f3) := hcells 3 _ rfl
      have s4 : wr.cell? ⟨b', off' + i * 7 + 4, none⟩ = some (.int .i64 f4_0) := hcells 4 _ rfl
      have s5 : wr.cell? ⟨b', off' + i * 7 + 5, none⟩ = some (.int .i64 f4_1) := hcells 5 _ rfl
      have s6 : wr.cell? ⟨b', off' + i * 7 + 6, none⟩ = some (.int .i64 f4_2) := hcells 6 _ rfl
      have HBR := Lib.hid hb
      have HL2 := Lib.hid (hl2.drew)
      have HR2 := Lib.hid (hr2.drew)
      have HX2 := Lib.hid ht2
      clear hzi hzi' hb hcellr hcells hlie hlie' hl2 hr2 ht2 _hu2
      go_wp2_with fail
      go_region_with (
        go_at_call 135
        refine (eqSent f0 f1 L2 A2 n2 c2 f3 f4_0 f4_1 f4_2 B2 k2 _ HL2.out HR2.out HX2.out hm2).mono ?_
        rintro e w2 ⟨rfl, hb2⟩
        have HB2 : Hid (Below w.heap.size w w2) := Lib.hid (HBR.out.drew.trans (hb2.mono HBR.out.size))
        clear hb2)
      all_goals (
        go_wp2_with fail
        go_roundw
        case rel => exact ⟨i + 1, by omega, by go_num, HB2.out⟩
        case measure => simp [intOf]; omega)
    · have HB := Lib.hid hb
      clear hb
      go_wp2
      go_ret
      exact GivesBool.ret HB.out
set_option maxHeartbeats 4000000 in
theorem eqAsker (f0 : Int) (f1 : Int) (w : World) : Calls Try.prog 156 #[.agg #[.int .i64 f0, .int .i64 f1], .agg #[.int .i64 f0, .int .i64 f1]] w (GivesBool true w) := by
  go_enter Try.func156, Try.ntmps156
  go_wp2
  go_ret
  exact GivesBool.ret (by go_grown)
set_option maxRecDepth 100000 in
set_option maxHeartbeats 4000000 in
theorem eqAskerS (L : List Dat) (A A' : Option Addr) (n n' c c' : Nat) (w : World) (h : Lies w (.l L) [.slice A n c]) (h' : Lies w (.l L) [.slice A' n' c']) (ht : ∀ x ∈ L, Has tyAsker x) (hn : n ≤ 9223372036854775807) : Calls Try.prog 102 #[.slice A n c, .slice A' n' c'] w (GivesBool true w) := by
  obtain rfl : n = n' := by rw [← h.count, ← h'.count]
  have H := Lib.hid h
  have H' := Lib.hid h'
  have HT := Lib.hid ht
  clear h h' ht
  go_enter Try.func102, Try.ntmps102
  go_wp2
  go_loopw [5] (fun iv wr => ∃ i : Nat, i ≤ n ∧ iv = .int .i64 i ∧ Below w.heap.size w wr) (fun iv _ => n - (intOf iv).toNat)
  case atStart => exact ⟨0, Nat.zero_le _, rfl, Below.refl _ _⟩
  case round =>
    obtain ⟨i, hin, rfl, hb⟩ := hrel
    by_cases hlt : i < n
    · obtain ⟨b, off, d, xs, rfl, hbw, hzi, hlie, hlen, hcellr⟩ := (H.out.below hb).elem (fun x hx => (HT.out x hx).width) hlt
      obtain ⟨b', off', d', xs', rfl, hbw', hzi', hlie', hlen', hcells⟩ := (H'.out.below hb).elem (fun x hx => (HT.out x hx).width) hlt
      obtain rfl : d = d' := by rw [hzi] at hzi'; exact Option.some.inj hzi'
      obtain ⟨g0, g1, hdd, rfl⟩ := invAsker (HT.out d (List.mem_of_getElem? hzi)) hlie'
      obtain ⟨f0, f1, rfl, rfl⟩ := invAsker (HT.out d (List.mem_of_getElem? hzi)) hlie
      simp only [Dat.r.injEq, List.cons.injEq, and_true] at hdd
      obtain ⟨e0, e1⟩ := hdd
      obtain rfl : f0 = g0 := by injection e0
      obtain rfl : f1 = g1 := by injection e1
      have r0 : wr.cell? ⟨b, off + i * 2, none⟩ = some (.int .i64 f0) := hcellr 0 _ rfl
      have r1 : wr.cell? ⟨b, off + i * 2 + 1, none⟩ = some (.int .i64 f1) := hcellr 1 _ rfl
      have s0 : wr.cell? ⟨b', off' + i * 2, none⟩ = some (.int .i64 f0) := hcells 0 _ rfl
      have s1 : wr.cell? ⟨b', off' + i * 2 + 1, none⟩ = some (.int .i64 f1) := hcells 1 _ rfl
      have HBR := Lib.hid hb
      clear hzi hzi' hb hcellr hcells hlie hlie'
      go_wp2_with fail
      go_region_with (
        go_at_call 156
        refine (eqAsker f0 f1 _).mono ?_
        rintro e w2 ⟨rfl, hb2⟩
        have HB2 : Hid (Below w.heap.size w w2) := Lib.hid (HBR.out.drew.trans (hb2.mono HBR.out.size))
        clear hb2)
      all_goals (
        go_wp2_with fail
        go_roundw
        case rel => exact ⟨i + 1, by omega, by go_num, HB2.out⟩
        case measure => simp [intOf]; omega)
    · have HB := Lib.hid hb
      clear hb
      go_wp2
      go_ret
      exact GivesBool.ret HB.out
end Go.Proofs.Ytmeacgpebpfpbaa
