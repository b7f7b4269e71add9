/- Chapter 11's draws: what the laws draw. -/
import Derived.Test.YtchofnligbgigaaDraP
import Derived.Test.YtchofnligbgigaaEncR
import Derived.Test.YtchofnligbgigaaDrawB
import Derived.Test.YtchofnligbgigaaDraB
import Derived.IntWalk
import Derived.LoopTactic
import Derived.Lib.Hide
import Derived.Deep.QuietTactic
import Derived.BigQuiet
import Derived.Deep.RegionWith
import Derived.Handy
namespace Go.Proofs.Ytchofnligbgigaa
open Go.RowKit
set_option linter.unusedVariables false
set_option linter.unusedSimpArgs false
/-- A message was drawn for a law. -/
def DrawnMs (w : World) (e : Ending) (w' : World) : Prop :=
  ∃ (f0 f1 f2 f3 : Int) (f4 : ByteArray) (L5 : List Dat) (A5 : Option Addr) (n5 c5 : Nat) (f6_0 f6_1 f7 f8_0 f8_1 f8_2 : Int), e = .returned (.agg #[.int .i64 f0, .int .i64 f1, .int .i64 f2, .int .i64 f3, .string f4, .slice A5 n5 c5, .int .i64 f6_0, .int .i64 f6_1, .int .i64 f7, .int .i64 f8_0, .int .i64 f8_1, .int .i64 f8_2]) ∧ Lies w' (.l L5) [.slice A5 n5 c5] ∧ MsOk 3 f4 L5 ∧ Below w.heap.size w w'
set_option maxRecDepth 100000 in
set_option maxHeartbeats 8000000 in
theorem drawIsM (A : Option Addr) (n c : Nat) (w : World) (hC : Code w A n) (hn : n ≤ 1048576) : Calls Try.prog 11 #[.slice A n c] w (DrawnMs w) := by
  have Zr : Hid (Zx w.heap.size [.int .i64 0, .int .i64 0, .int .i64 0, .int .i64 0, .string ⟨#[]⟩, .slice none 0 0, .int .i64 0, .int .i64 0, .int .i64 0, .int .i64 0, .int .i64 0, .int .i64 0] (w.alloc (.cells #[.int .i64 0, .int .i64 0, .int .i64 0, .int .i64 0, .string ⟨#[]⟩, .slice none 0 0, .int .i64 0, .int .i64 0, .int .i64 0, .int .i64 0, .int .i64 0, .int .i64 0] 30))) := Lib.hid (Zx.new w #[.int .i64 0, .int .i64 0, .int .i64 0, .int .i64 0, .string ⟨#[]⟩, .slice none 0 0, .int .i64 0, .int .i64 0, .int .i64 0, .int .i64 0, .int .i64 0, .int .i64 0] 30)
  have HB : Hid (Below w.heap.size w (w.alloc (.cells #[.int .i64 0, .int .i64 0, .int .i64 0, .int .i64 0, .string ⟨#[]⟩, .slice none 0 0, .int .i64 0, .int .i64 0, .int .i64 0, .int .i64 0, .int .i64 0, .int .i64 0] 30))) := Lib.hid ((Below.refl _ _).alloc (Nat.le_refl _) _)
  have HC := Lib.hid (hC.low9 HB.out)
  clear hC
  go_enter Try.func11, Try.ntmps11
  go_wp2_with fail
  refine (l1New A n c _ HC.out hn).mono ?_
  rintro e w1 ⟨g, rfl, hc, hb⟩
  have hge0 := Lib.hid hc.ge
  have hsb := Lib.hid hb.size
  have hge := hc.ge
  simp only [World.size_alloc] at hge
  have HCU := Lib.hid hc
  replace Zr := Lib.hid (Zr.out.below hb)
  replace HB : Hid (Below w.heap.size w w1) := Lib.hid (HB.out.trans (hb.mono HB.out.size))
  have hs1 := HB.out.size
  clear hb hc
  go_wp2_with fail
  refine (l11AnyM _ g _ HCU.out).mono ?_
  rintro e w2 ⟨f0, f1, f2, f3, f4, L5, A5, n5, c5, f6_0, f6_1, f7, f8_0, f8_1, f8_2, rfl, hG, hok, hL⟩
  have hG2 := Lib.hid hG
  have HOK := Lib.hid hok
  have hlt1 := Zr.out.lt
  replace Zr := Lib.hid (Zr.out.touch (Touch.of_turn hL.2) (by omega))
  replace HB : Hid (Below w.heap.size w w2) := Lib.hid (HB.out.trans ((hL.below hge0.out hsb.out).mono (by simp)))
  clear hG hok hL
  obtain ⟨z0, z1, z2, z3, z4, z5, z6, z7, z8, z9, z10, z11, fz⟩ := Zr.out.c12
  go_wp2_with (
    with_reducible refine bodyPost_ret (v := .agg #[.int .i64 f0, .int .i64 f1, .int .i64 f2, .int .i64 f3, .string f4, .slice A5 n5 c5, .int .i64 f6_0, .int .i64 f6_1, .int .i64 f7, .int .i64 f8_0, .int .i64 f8_1, .int .i64 f8_2]) ?hres rfl ?hpost
    case hres =>
      refine results_box rfl _ _ (w.heap.size) [.int .i64 f0, .int .i64 f1, .int .i64 f2, .int .i64 f3, .string f4, .slice A5 n5 c5, .int .i64 f6_0, .int .i64 f6_1, .int .i64 f7, .int .i64 f8_0, .int .i64 f8_1, .int .i64 f8_2] _ rfl ?_ Try.underlying30 rfl (by kernel_rfl)
      refine Zx.box ?_
      repeat (first | with_reducible exact Zr.out | with_reducible refine Zx.drewB ?_ | with_reducible apply Zx.put12)
    case hpost =>
      suffices h9 : ∀ w' : World, Touch (fun b => b = w.heap.size) w2 w' → DrawnMs w (.returned (.agg #[.int .i64 f0, .int .i64 f1, .int .i64 f2, .int .i64 f3, .string f4, .slice A5 n5 c5, .int .i64 f6_0, .int .i64 f6_1, .int .i64 f7, .int .i64 f8_0, .int .i64 f8_1, .int .i64 f8_2])) w' from h9 _ (by repeat (first | with_reducible exact Touch.refl _ _ | with_reducible refine Touch.drew ?_ | with_reducible refine Touch.put12 ?_ (Eq.refl _)))
      intro w' hT9
      exact ⟨f0, f1, f2, f3, f4, L5, A5, n5, c5, f6_0, f6_1, f7, f8_0, f8_1, f8_2, rfl, (hG2.out.touch hT9 (fun a e hx => by have h1 := (hG2.out.blkF a e).1; omega) (fun _ h => h.elim)).owns.lies, HOK.out, HB.out.trans (hT9.below (fun x h => by omega) HB.out.size)⟩)
/-- Bytes that were drawn for a law. -/
def DrawnBy (w : World) (e : Ending) (w' : World) : Prop := ∃ A n c zs, e = .returned (.slice A n c) ∧ Rz .u8 w' A n zs ∧ n ≤ c ∧ Byt zs ∧ n ≤ 1048579 ∧ Below w.heap.size w w'
theorem encM_len2 (f0 f1 f2 f3 : Int) (f4 : ByteArray) (L5 : List Dat) (f6_0 f6_1 f7 f8_0 f8_1 f8_2 : Int) : (encM f0 f1 f2 f3 f4 L5 f6_0 f6_1 f7 f8_0 f8_1 f8_2).length ≤ 1048577 := by
  unfold encM
  split
  · rename_i h
    have hin := msg_in h
    have h1 := encL_len (numsM f0 f1 f2 f3 L5 f6_0 f6_1 f7 f8_0 f8_1 f8_2)
    have h2 := nums_len f0 f1 f2 f3 L5 f6_0 f6_1 f7 f8_0 f8_1 f8_2
    have h3 := encU_len ((strI f4).length : Int)
    have h4 := strI_len f4
    have h5 := hin.i4
    have h6 := hin.i5.1
    simp only [List.length_append]
    omega
  · simp
theorem encM_byt (f0 f1 f2 f3 : Int) (f4 : ByteArray) (L5 : List Dat) (f6_0 f6_1 f7 f8_0 f8_1 f8_2 : Int) : Byt (encM f0 f1 f2 f3 f4 L5 f6_0 f6_1 f7 f8_0 f8_1 f8_2) := by
  unfold encM
  split
  · exact ((encL_byt _).append (encU_byt _)).append (strI_byt _)
  · exact Byt.nil
set_option maxRecDepth 100000 in
set_option maxHeartbeats 8000000 in
theorem drawDec (A : Option Addr) (n c : Nat) (w : World) (hC : Code w A n) (hn : n ≤ 1048576) : Calls Try.prog 16 #[.slice A n c] w (DrawnBy w) := by
  go_enter Try.func16, Try.ntmps16
  go_wp2_with fail
  refine (l1New A n c _ hC hn).mono ?_
  rintro e w1 ⟨g, rfl, hc, hb⟩
  have hge := hc.ge
  have HCU := Lib.hid hc
  have HB := Lib.hid hb
  have hs1 := hb.size
  clear hb hc
  go_wp2_with fail
  refine (l11Msg _ g _ HCU.out).mono ?_
  rintro e w2 ⟨f0, f1, f2, f3, f4, L5, A5, n5, c5, f6_0, f6_1, f7, f8_0, f8_1, f8_2, rfl, hG, ⟨hs8, hty, hl2⟩, hL⟩
  have HLI := Lib.hid hG.owns.lies
  have HTY := Lib.hid hty
  have hn5 : n5 ≤ 1099511627776 := by have h1 := hG.owns.lies.count; omega
  have HCU2 := Lib.hid hL.1
  have hgw := HCU2.out.lt
  replace HB : Hid (Below w.heap.size w w2) := Lib.hid (HB.out.trans (hL.below hge hs1))
  have hs2 := hL.2.size
  clear hG hty hL
  go_wp2_with fail
  refine (specEnc f0 f1 f2 f3 f4 L5 A5 n5 c5 f6_0 f6_1 f7 f8_0 f8_1 f8_2 _ HLI.out HTY.out hn5 (by omega)).mono ?_
  rintro e w3 ⟨A3, n3, c3, rfl, hO, hb⟩
  have R3 := Lib.hid hO.rz
  have hn3 : n3 ≤ 1048577 := by rw [← hO.1]; exact encM_len2 _ _ _ _ _ _ _ _ _ _ _ _
  have HCU3 := Lib.hid (HCU2.out.low hb hgw)
  replace HB : Hid (Below w.heap.size w w3) := Lib.hid (HB.out.trans (hb.mono HB.out.size))
  have hs3 := HB.out.size
  clear hO hb
  go_wp2_with fail
  refine (l1Bent _ g A3 n3 c3 _ _ HCU3.out R3.out (encM_byt _ _ _ _ _ _ _ _ _ _ _ _) hn3).mono ?_
  rintro e w4 ⟨A4, n4, c4, zs4, rfl, hR4, hc4, hby4, hn4, hL⟩
  have H4 := Lib.hid hR4
  have HY4 := Lib.hid hby4
  replace HB : Hid (Below w.heap.size w w4) := Lib.hid (HB.out.trans (hL.below hge hs3))
  clear hR4 hby4 hL
  go_wp2_with fail
  go_ret
  exact ⟨_, _, _, _, rfl, H4.out, hc4, HY4.out, hn4, HB.out⟩
end Go.Proofs.Ytchofnligbgigaa
