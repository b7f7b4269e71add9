/- Chapter 11, plain: data that are alike; the first element that ..; valid wires and messages. Chapter 11's marks. -/
import Derived.Test.YtmeacgpebpfpbaaCom
import Derived.Test.YtmeacgpebpfpbaaTyM1
import Derived.Test.YtmeacgpebpfpbaaInsA
import Derived.LoopTactic
import Derived.Lib.Hide
import Derived.Deep.QuietTactic
import Derived.BigQuiet
import Derived.Deep.RegionWith
import Derived.Handy
section
namespace Go.Proofs.Ytmeacgpebpfpbaa
open Go.RowKit
set_option linter.unusedVariables false
set_option linter.unusedSimpArgs false
def numB (n : Int) : Bool := inR n 0 999999
def oneB (n : Int) : Bool := inR n 1 999999
def wireB (k n : Int) : Bool := if k = 0 then numB n else if k = 1 ∨ k = 2 then oneB n else decide (k = 3) && decide (n = 0)
def wireD (d : Dat) : Bool := wireB (fld 0 d) (fld 1 d)
def oneTo (p a : Int) : Bool := if p = 0 then oneB a else oneB p && decide (a = 0)
def zz (a b : Int) : Bool := decide (a = 0) && decide (b = 0)
def zzz (a b c : Int) : Bool := decide (a = 0) && decide (b = 0) && decide (c = 0)
def tagB (a b c : Int) : Bool := oneB a && numB b && oneB c
def argsB (L : List Dat) : Bool := decide (L.length ≤ 2) && L.all wireD
def calmB (f2 : Int) (f4 : ByteArray) (L5 : List Dat) (f8_0 f8_1 f8_2 : Int) : Bool := decide (f2 = 0) && decide (f4.size = 0) && decide (L5.length = 0) && zzz f8_0 f8_1 f8_2
def msgB (f0 f1 f2 f3 : Int) (f4 : ByteArray) (L5 : List Dat) (f6_0 f6_1 f7 f8_0 f8_1 f8_2 : Int) : Bool :=
  if f0 = 1 then zz f6_0 f6_1 && decide (f7 = 0) && oneTo f1 f2 && oneB f3 && isName f4 && argsB L5 && tagB f8_0 f8_1 f8_2
  else if f0 = 2 then calmB f2 f4 L5 f8_0 f8_1 f8_2 && decide (f1 = 0) && decide (f7 = 0) && oneB f3 && wireB f6_0 f6_1
  else if f0 = 3 ∨ f0 = 4 ∨ f0 = 5 then calmB f2 f4 L5 f8_0 f8_1 f8_2 && decide (f1 = 0) && decide (f7 = 0) && zz f6_0 f6_1 && oneB f3
  else if f0 = 6 then calmB f2 f4 L5 f8_0 f8_1 f8_2 && decide (f3 = 0) && zz f6_0 f6_1 && oneB f1 && oneB f7
  else false
end Go.Proofs.Ytmeacgpebpfpbaa
end
section
namespace Go.Proofs.Ytmeacgpebpfpbaa
open Go.RowKit
set_option linter.unusedVariables false
set_option linter.unusedSimpArgs false
set_option maxRecDepth 100000 in
set_option maxHeartbeats 4000000 in
theorem markWireS (L : List Dat) (A : Option Addr) (n c : Nat) (z : Int) (B : Nat → Prop) (w : World) (h : Owns w (.l L) [.slice A n c] B) (ht : ∀ x ∈ L, Has tyWire x) (h0 : 0 < z) (h1 : z + cntAll L ≤ 1099511627776) (hn : n ≤ 1099511627776) :
    Calls Try.prog 141 #[.slice A n c, .int .i64 z] w (MarkedD L A n c z B w) := by
  have HT := Lib.hid ht
  have HC := Lib.hid h.lies.count
  have H := Lib.hid h
  have H1 := Lib.hid h1
  clear h ht h1
  go_enter Try.func141, Try.ntmps141
  go_wp2
  go_loopw [1, 5] (fun zv iv wr => ∃ (i : Nat) (y : Int), i ≤ n ∧ iv = .int .i64 i ∧ zv = .int .i64 y ∧ y = z + cntAll (L.take i) ∧ Owns wr (.l (half L z i)) [.slice A n c] B ∧ Touch B w wr) (fun _ iv _ => n - (intOf iv).toNat)
  case atStart => exact ⟨0, z, Nat.zero_le _, rfl, rfl, by simp [cntAll], by rw [half_zero]; exact H.out, Touch.refl _ _⟩
  case round =>
    obtain ⟨i, y, hin, rfl, rfl, hy, hO, hT⟩ := hrel
    have HY := Lib.hid hy
    have HTo := Lib.hid hT
    clear hy hT
    by_cases hlt : i < n
    · have hzi : L[i]? = some (L[i]'(by have := HC.out; omega)) := List.getElem?_eq_getElem (by have := HC.out; omega)
      generalize L[i]'(by have := HC.out; omega) = d at hzi
      obtain ⟨g, E, cur, d', xs, Bi, Br, rfl, hBg, hh, hdi, hOd, hlen, hBi, hBr, hcell, hfr, hsz, hput⟩ := hO.focus (k := 2) (half_width (fun x hx => (HT.out x hx).width)) hlt
      obtain rfl : d = d' := by rw [half_at hzi] at hdi; exact Option.some.inj hdi
      obtain ⟨f0, f1, rfl, rfl⟩ := invWire (HT.out d (List.mem_of_getElem? hzi)) hOd.lies
      have hcn : cntAll (L.take (i + 1)) = cntAll (L.take i) + 2 := cnt_next hzi
      have hcl := cnt_take_le L (i + 1)
      have hy0 : 0 < y := by have := HY.out; omega
      have hy1 : y + 2 ≤ 1099511627776 := by have h1 := HY.out; have h2 := H1.out; omega
      have r0 : wr.cell? ⟨g, i * 2, none⟩ = some (.int .i64 f0) := hcell 0 _ rfl
      have q0 := hfr (i * 2)
      have r1 : wr.cell? ⟨g, i * 2 + 1, none⟩ = some (.int .i64 f1) := hcell 1 _ rfl
      have q1 := hfr (i * 2 + 1)
      have hgl : g < wr.heap.size := (Array.getElem?_eq_some_iff.1 hh).1
      have HH := Lib.hid hh
      have HP := Lib.hid hput
      have HZ := Lib.hid hzi
      have HCN := Lib.hid hcn
      have HBR := Lib.hid hBr
      clear hh hput hcell hfr hzi hdi hOd hcn hBi hBr hO hlen
      go_wp2_with fail
      go_roundw
      case rel =>
        have T2 : Touch (fun b => b = g) wr ((wr.setCell ⟨g, i * 2, none⟩ (.int .i64 (y))).setCell ⟨g, i * 2 + 1, none⟩ (.int .i64 (y + 1))) := ((Touch.refl (fun b => b = g) wr).setCell (p := ⟨g, i * 2, none⟩) rfl _).setCell (p := ⟨g, i * 2 + 1, none⟩) rfl _
        refine ⟨i + 1, _, by omega, by go_num, rfl, ?_, ?_, ?_⟩
        · have h1 := HY.out
          have h2 := HCN.out
          omega
        · rw [← half_set HZ.out, ← HY.out]
          refine (HP.out _ (mkd (.r [.i f0, .i f1]) y) [.int .i64 (y), .int .i64 (y + 1)] (fun _ => False) _ rfl ?_ (fun b hb => hb.elim) (heap_set (heap_set HH.out _) _) ?_ (fun b hb hlt => T2.block b hlt (fun e => (HBR.out b hb).2 e))).mono (fun b hb => ?_)
          · exact ownWire (f0 := y) (f1 := y + 1)
          · simp [setRange]
          · rcases hb with rfl | hb | hb
            · exact hBg
            · exact (HBR.out b hb).1
            · exact hb.elim
        · exact HTo.out.trans (T2.mono (fun b e => by rw [e]; exact hBg))
      case measure => simp [intOf]; omega
    · obtain rfl : i = n := by omega
      have HM : Hid (MarkedD L A i c z B w (.returned (.int .i64 y)) wr) := Lib.hid ⟨by rw [HY.out, List.take_of_length_le (by have := HC.out; omega)], by rw [half_all HC.out] at hO; exact hO, HTo.out⟩
      clear hO
      go_wp2_with fail
      go_ret
      exact HM.out
set_option maxRecDepth 100000 in
set_option maxHeartbeats 4000000 in
theorem heldWireS (L : List Dat) (A : Option Addr) (n c : Nat) (z : Int) (w : World) (h : Lies w (.l (mkAll L z)) [.slice A n c]) (ht : ∀ x ∈ L, Has tyWire x) (h0 : 0 < z) (h1 : z + cntAll L ≤ 1099511627776) (hn : n ≤ 1099511627776) :
    Calls Try.prog 146 #[.slice A n c, .int .i64 z] w (GivesInt (z + cntAll L) w) := by
  have HT := Lib.hid ht
  have hc := h.count
  rw [mkAll_len] at hc
  have HC := Lib.hid hc
  have H := Lib.hid h
  have H1 := Lib.hid h1
  have hk : ∀ x ∈ mkAll L z, x.width = 2 := fun x hx => by
    obtain ⟨j, hj, rfl⟩ := List.getElem_of_mem hx
    have hjl : j < L.length := by rw [mkAll_len] at hj; exact hj
    have e := mkAll_at (z := z) (List.getElem?_eq_getElem hjl)
    rw [List.getElem?_eq_getElem hj] at e
    rw [Option.some.inj e, mkd_width]
    exact (ht _ (List.getElem_mem hjl)).width
  have HK := Lib.hid hk
  clear h ht h1 hc hk
  go_enter Try.func146, Try.ntmps146
  go_wp2
  go_loopw [1, 5] (fun zv iv wr => ∃ (i : Nat) (y : Int), i ≤ n ∧ iv = .int .i64 i ∧ zv = .int .i64 y ∧ y = z + cntAll (L.take i) ∧ Below w.heap.size w wr) (fun _ iv _ => n - (intOf iv).toNat)
  case atStart => exact ⟨0, z, Nat.zero_le _, rfl, rfl, by simp [cntAll], Below.refl _ _⟩
  case round =>
    obtain ⟨i, y, hin, rfl, rfl, hy, hb⟩ := hrel
    have HY := Lib.hid hy
    have HB := Lib.hid hb
    clear hy hb
    by_cases hlt : i < n
    · have hzi : L[i]? = some (L[i]'(by have := HC.out; omega)) := List.getElem?_eq_getElem (by have := HC.out; omega)
      generalize L[i]'(by have := HC.out; omega) = d at hzi
      obtain ⟨b, off, d', xs, rfl, hbw, hdi, hlie, hlen, hcell⟩ := (H.out.below HB.out).elem HK.out hlt
      obtain rfl : mkd d (z + cntAll (L.take i)) = d' := by rw [mkAll_at hzi] at hdi; exact Option.some.inj hdi
      rw [← HY.out] at hlie
      obtain ⟨ds, rfl, hds⟩ := HT.out d (List.mem_of_getElem? hzi)
      simp only [HasAll] at hds
      obtain ⟨d0, _, rfl, ⟨f0, rfl, -, -⟩, d1, _, rfl, ⟨f1, rfl, -, -⟩, rfl⟩ := hds
      have hl2 : Lies wr (.r [.i (y), .i (y + 1)]) xs := hlie
      simp only [Lies, LiesAll] at hl2
      obtain ⟨e0, _, rfl, rfl, e1, _, rfl, rfl, rfl⟩ := hl2
      have hcn : cntAll (L.take (i + 1)) = cntAll (L.take i) + 2 := cnt_next hzi
      have hcl := cnt_take_le L (i + 1)
      have hy0 : 0 < y := by have := HY.out; omega
      have hy1 : y + 2 ≤ 1099511627776 := by have h1 := HY.out; have h2 := H1.out; omega
      have r0 : wr.cell? ⟨b, off + i * 2, none⟩ = some (.int .i64 (y)) := hcell 0 _ rfl
      have r1 : wr.cell? ⟨b, off + i * 2 + 1, none⟩ = some (.int .i64 (y + 1)) := hcell 1 _ rfl
      have HCN := Lib.hid hcn
      clear hcn hzi hdi hlie hlen hcell
      go_wp2_with fail
      go_roundw
      case rel =>
        refine ⟨i + 1, _, by omega, by go_num, rfl, ?_, HB.out⟩
        have h1 := HY.out
        have h2 := HCN.out
        omega
      case measure => simp [intOf]; omega
    · obtain rfl : i = n := by omega
      have HE : Hid (y = z + cntAll L) := Lib.hid (by rw [HY.out, List.take_of_length_le (by have := HC.out; omega)])
      go_wp2_with fail
      go_ret
      exact GivesInt.ret HE.out HB.out
theorem Touch.of_step {lo hi : Nat} {w w' : World} (h : Step lo hi w w') : Touch (rng lo hi) w w' := ⟨h.os, h.tape, h.output, h.size, fun k hk ho => h.block k hk (by unfold rng at ho; omega)⟩
end Go.Proofs.Ytmeacgpebpfpbaa
end
