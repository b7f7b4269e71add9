/- Chapter 11's data, by program. -/
import Derived.Test.YtmeacgpebpfpbaaTyT
import Derived.Test.YtmeacgpebpfpbaaTyE0
import Derived.LoopTactic
import Derived.Lib.Hide
import Derived.Deep.QuietTactic
import Derived.BigQuiet
import Derived.Deep.RegionWith
import Derived.Handy
namespace Go.Proofs.Ytmeacgpebpfpbaa
open Go.RowKit
set_option linter.unusedVariables false
set_option linter.unusedSimpArgs false
def tyWire : Ty := .rcd [.int, .int]
theorem invWire {w : World} {d : Dat} {xs : List Value} (hT : Has tyWire d) (h : Lies w d xs) : ∃ (f0 : Int) (f1 : Int), d = .r [.i f0, .i f1] ∧ xs = [.int .i64 f0, .int .i64 f1] := by
  simp only [tyWire, Has, HasAll] at hT
  obtain ⟨ds, rfl, d0, r0, rfl, ⟨f0, rfl, -, -⟩, d1, r1, rfl, ⟨f1, rfl, -, -⟩, rfl⟩ := hT
  simp only [Lies, LiesAll] at h
  obtain ⟨e0, q0, rfl, rfl, e1, q1, rfl, rfl, rfl⟩ := h
  exact ⟨f0, f1, rfl, rfl⟩
def tyMessage : Ty := .rcd [.int, .int, .int, .int, .str, .sl tyWire, .rcd [.int, .int], .int, .rcd [.int, .int, .int]]
def GivesWire (f0 : Int) (f1 : Int) (w : World) (e : Ending) (w' : World) : Prop := e = .returned (.agg #[.int .i64 f0, .int .i64 f1]) ∧ Below w.heap.size w w'
set_option maxHeartbeats 4000000 in
theorem toWire (f0 : Int) (f1 : Int) (w : World) : Calls Try.prog 187 #[.agg #[.int .i64 f0, .int .i64 f1]] w (GivesWire f0 f1 w) := by
  go_enter Try.func187, Try.ntmps187
  go_wp2
  refine bodyPost_ret (v := .agg #[.int .i64 f0, .int .i64 f1]) (by simp [results, Try.results187, go_sem]) rfl ?_
  exact ⟨rfl, by go_grown⟩
theorem ownWire {w : World} {Iv : Nat → Prop} {f0 : Int} {f1 : Int} : Owns w (.r [.i f0, .i f1]) [.int .i64 f0, .int .i64 f1] Iv := by
  rw [Owns]
  exact (OwnsAll.consF (c1 := [.int .i64 f0]) (d := .i f0) rfl (OwnsAll.consF (c1 := [.int .i64 f1]) (d := .i f1) rfl (OwnsAll.nil_ _ _)))
theorem zeroWire (w : World) : Owns w (.r [.i 0, .i 0]) (#[.int .i64 0, .int .i64 0] : Array Value).toList (fun _ => False) := by
  rw [Owns]
  exact (OwnsAll.consF (c1 := [.int .i64 0]) (d := .i 0) rfl (OwnsAll.consF (c1 := [.int .i64 0]) (d := .i 0) rfl (OwnsAll.nil_ _ _)))
theorem infoWire : (Try.prog.info? 108).map (fun i => (i.zero, i.size, i.bytes)) = some (some (.agg #[.int .i64 0, .int .i64 0]), 2, 16) := by kernel_rfl
set_option maxRecDepth 100000 in
set_option maxHeartbeats 4000000 in
theorem toWireS (L : List Dat) (A : Option Addr) (n c : Nat) (w : World) (h : Lies w (.l L) [.slice A n c]) (ht : ∀ x ∈ L, Has tyWire x) (hq : (Dat.l L).bulk ≤ 1099511627776) : Calls Try.prog 186 #[.slice A n c] w (FreshD L w) := by
  obtain ⟨i0, hi, hz0, hz1, hz2⟩ := info_parts infoWire
  have H := Lib.hid h
  have HT := Lib.hid ht
  have hn : n ≤ 1099511627776 := by have := h.count; simp only [Dat.bulk] at hq; omega
  clear h ht
  go_enter Try.func186, Try.ntmps186
  go_wp2_with (refine wpList_make_full _ rfl _ _ 107 rfl w.heap.size 108 i0 (.agg #[.int .i64 0, .int .i64 0]) 2 Try.underlying107 hi hz0 hz1 _ _ (n : Int) (n : Int) n rfl rfl rfl rfl (by rw [hz2]; omega) (by unfold maxLen; omega) (Nat.le_refl _) ?_)
  intro w1 hown hgrow
  have hU : UptoD w 2 L w.heap.size n 0 w1 := UptoD.start (zc := #[.int .i64 0, .int .i64 0]) (zeroWire) rfl hown (Nat.le_refl _) ((Below.refl w.heap.size w).grown hgrow (Nat.le_refl _) (fun k h => by cases h))
  clear hown hgrow
  go_wp2
  go_loopw [4] (fun iv wr => ∃ i : Nat, i ≤ n ∧ iv = .int .i64 i ∧ UptoD w 2 L w.heap.size n i wr) (fun iv _ => n - (intOf iv).toNat)
  case atStart => exact ⟨0, Nat.zero_le _, rfl, hU⟩
  case round =>
    obtain ⟨i, hin, rfl, hUr⟩ := hrel
    clear hU
    by_cases hlt : i < n
    · have hUr' := Lib.hid hUr
      obtain ⟨ds, B, -, -, -, -, -, hb⟩ := hUr
      obtain ⟨b, off, d, xs, rfl, hbw, hzi, hlie, hlen, hcell⟩ := (H.out.below hb).elem (fun x hx => (HT.out x hx).width) hlt
      obtain ⟨f0, f1, rfl, rfl⟩ := invWire (HT.out d (List.mem_of_getElem? hzi)) hlie
      have r0 : wr.cell? ⟨b, off + i * 2, none⟩ = some (.int .i64 f0) := hcell 0 _ rfl
      have r1 : wr.cell? ⟨b, off + i * 2 + 1, none⟩ = some (.int .i64 f1) := hcell 1 _ rfl
      have HZ := Lib.hid hzi
      have HW := Lib.hid ((HT.out _ (List.mem_of_getElem? hzi)).width)
      have HBR := Lib.hid hb
      clear hzi hb hcell hlie
      go_wp2_with (
        with_reducible refine (toWire f0 f1 _).mono ?_
        rintro e w2 ⟨rfl, hb⟩
        have hsl := hUr'.out.slot hlt hb
        obtain ⟨u0, s0⟩ : ∃ u, w2.cell? ⟨w.heap.size, i * 2, none⟩ = some u := hsl.1 0 (by omega)
        have t0 := hsl.2 (i * 2)
        obtain ⟨u1, s1⟩ : ∃ u, w2.cell? ⟨w.heap.size, i * 2 + 1, none⟩ = some u := hsl.1 1 (by omega)
        have t1 := hsl.2 (i * 2 + 1)
        have HN := Lib.hid (UptoD.next hUr'.out hlt HZ.out HW.out (ownWire (Iv := fun _ => False)) (fun b hb => hb.elim) hb)
        clear hsl hb)
      go_roundw
      case rel => exact ⟨i + 1, by omega, by go_num, HN.out⟩
      case measure => simp [intOf]; omega
    · obtain rfl : i = n := by omega
      have hUr' := Lib.hid hUr
      clear hUr
      go_wp2_with fail
      go_ret
      exact hUr'.out.ret H.out.count
end Go.Proofs.Ytmeacgpebpfpbaa
