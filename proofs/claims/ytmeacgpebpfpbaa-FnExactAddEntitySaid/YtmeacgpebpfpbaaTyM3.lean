/- Chapter 11's data, by program. -/
import Derived.Test.YtmeacgpebpfpbaaTyT
import Derived.Test.YtmeacgpebpfpbaaTyM1
import Derived.LoopTactic
import Derived.Lib.Hide
import Derived.Deep.QuietTactic
import Derived.BigQuiet
import Derived.Deep.RegionWith
import Derived.Handy
namespace Go.Proofs.Ytmeacgpebpfpbaa
open Go.RowKit
set_option linter.unusedVariables false
set_option linter.unusedSimpArgs false
set_option maxHeartbeats 4000000 in
theorem eqWire (f0 : Int) (f1 : Int) (w : World) : Calls Try.prog 182 #[.agg #[.int .i64 f0, .int .i64 f1], .agg #[.int .i64 f0, .int .i64 f1]] w (GivesBool true w) := by
  go_enter Try.func182, Try.ntmps182
  go_wp2
  go_ret
  exact GivesBool.ret (by go_grown)
set_option maxRecDepth 100000 in
set_option maxHeartbeats 4000000 in
theorem eqWireS (L : List Dat) (A A' : Option Addr) (n n' c c' : Nat) (w : World) (h : Lies w (.l L) [.slice A n c]) (h' : Lies w (.l L) [.slice A' n' c']) (ht : ∀ x ∈ L, Has tyWire x) (hn : n ≤ 9223372036854775807) : Calls Try.prog 181 #[.slice A n c, .slice A' n' c'] w (GivesBool true w) := by
  obtain rfl : n = n' := by rw [← h.count, ← h'.count]
  have H := Lib.hid h
  have H' := Lib.hid h'
  have HT := Lib.hid ht
  clear h h' ht
  go_enter Try.func181, Try.ntmps181
  go_wp2
  go_loopw [5] (fun iv wr => ∃ i : Nat, i ≤ n ∧ iv = .int .i64 i ∧ Below w.heap.size w wr) (fun iv _ => n - (intOf iv).toNat)
  case atStart => exact ⟨0, Nat.zero_le _, rfl, Below.refl _ _⟩
  case round =>
    obtain ⟨i, hin, rfl, hb⟩ := hrel
    by_cases hlt : i < n
    · obtain ⟨b, off, d, xs, rfl, hbw, hzi, hlie, hlen, hcellr⟩ := (H.out.below hb).elem (fun x hx => (HT.out x hx).width) hlt
      obtain ⟨b', off', d', xs', rfl, hbw', hzi', hlie', hlen', hcells⟩ := (H'.out.below hb).elem (fun x hx => (HT.out x hx).width) hlt
      obtain rfl : d = d' := by rw [hzi] at hzi'; exact Option.some.inj hzi'
      obtain ⟨g0, g1, hdd, rfl⟩ := invWire (HT.out d (List.mem_of_getElem? hzi)) hlie'
      obtain ⟨f0, f1, rfl, rfl⟩ := invWire (HT.out d (List.mem_of_getElem? hzi)) hlie
      simp only [Dat.r.injEq, List.cons.injEq, and_true] at hdd
      obtain ⟨e0, e1⟩ := hdd
      obtain rfl : f0 = g0 := by injection e0
      obtain rfl : f1 = g1 := by injection e1
      have r0 : wr.cell? ⟨b, off + i * 2, none⟩ = some (.int .i64 f0) := hcellr 0 _ rfl
      have r1 : wr.cell? ⟨b, off + i * 2 + 1, none⟩ = some (.int .i64 f1) := hcellr 1 _ rfl
      have s0 : wr.cell? ⟨b', off' + i * 2, none⟩ = some (.int .i64 f0) := hcells 0 _ rfl
      have s1 : wr.cell? ⟨b', off' + i * 2 + 1, none⟩ = some (.int .i64 f1) := hcells 1 _ rfl
      have HBR := Lib.hid hb
      clear hzi hzi' hb hcellr hcells hlie hlie'
      go_wp2_with fail
      go_region_with (
        go_at_call 182
        refine (eqWire f0 f1 _).mono ?_
        rintro e w2 ⟨rfl, hb2⟩
        have HB2 : Hid (Below w.heap.size w w2) := Lib.hid (HBR.out.drew.trans (hb2.mono HBR.out.size))
        clear hb2)
      all_goals (
        go_wp2_with fail
        go_roundw
        case rel => exact ⟨i + 1, by omega, by go_num, HB2.out⟩
        case measure => simp [intOf]; omega)
    · have HB := Lib.hid hb
      clear hb
      go_wp2
      go_ret
      exact GivesBool.ret HB.out
end Go.Proofs.Ytmeacgpebpfpbaa
