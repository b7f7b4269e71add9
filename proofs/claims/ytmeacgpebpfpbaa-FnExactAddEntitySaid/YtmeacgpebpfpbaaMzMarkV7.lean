/- Chapter 12's marks, by program: records by value. Chapter 12: a vat that is owned, its lists. -/
import Derived.Test.YtmeacgpebpfpbaaMarkV2
import Derived.Test.YtmeacgpebpfpbaaMarkV3
import Derived.Test.YtmeacgpebpfpbaaMarkV4
import Derived.Deep.RegionHeld3
import Derived.LoopTactic
import Derived.Lib.Hide
import Derived.Deep.QuietTactic
import Derived.BigQuiet
import Derived.Deep.RegionWith
import Derived.Handy
import Derived.Test.YtmeacgpebpfpbaaVatX
import Derived.Deep.RegionLaw
import Derived.Deep.Cut
section
namespace Go.Proofs.Ytmeacgpebpfpbaa
open Go.RowKit
set_option linter.unusedVariables false
set_option linter.unusedSimpArgs false
theorem partVat {w : World} {B : Nat → Prop} {f0 : Int} {L1 : List Dat} {A1 : Option Addr} {n1 c1 : Nat} {L2 : List Dat} {A2 : Option Addr} {n2 c2 : Nat} {L3 : List Dat} {A3 : Option Addr} {n3 c3 : Nat} {L4 : List Dat} {A4 : Option Addr} {n4 c4 : Nat} (h : Owns w (.r [.i f0, .l L1, .l L2, .l L3, .l L4]) [.int .i64 f0, .slice A1 n1 c1, .slice A2 n2 c2, .slice A3 n3 c3, .slice A4 n4 c4] B) : ∃ P1 P2 P3 P4 : Nat → Prop, Owns w (.l L1) [.slice A1 n1 c1] P1 ∧ Owns w (.l L2) [.slice A2 n2 c2] P2 ∧ Owns w (.l L3) [.slice A3 n3 c3] P3 ∧ Owns w (.l L4) [.slice A4 n4 c4] P4 ∧ (∀ b, P1 b → B b) ∧ (∀ b, P2 b → B b) ∧ (∀ b, P3 b → B b) ∧ (∀ b, P4 b → B b) ∧ (∀ b, P1 b → ¬ P2 b) ∧ (∀ b, P1 b → ¬ P3 b) ∧ (∀ b, P1 b → ¬ P4 b) ∧ (∀ b, P2 b → ¬ P3 b) ∧ (∀ b, P2 b → ¬ P4 b) ∧ (∀ b, P3 b → ¬ P4 b) := by
  rw [Owns] at h
  obtain ⟨R0, Q0, g0, h, p0, q0, d0⟩ := OwnsAll.cut (c1 := [.int .i64 f0]) h rfl
  obtain ⟨R1, Q1, g1, h, p1, q1, d1⟩ := OwnsAll.cut (c1 := [.slice A1 n1 c1]) h rfl
  obtain ⟨R2, Q2, g2, h, p2, q2, d2⟩ := OwnsAll.cut (c1 := [.slice A2 n2 c2]) h rfl
  obtain ⟨R3, Q3, g3, h, p3, q3, d3⟩ := OwnsAll.cut (c1 := [.slice A3 n3 c3]) h rfl
  obtain ⟨R4, Q4, g4, h, p4, q4, d4⟩ := OwnsAll.cut (c1 := [.slice A4 n4 c4]) h rfl
  exact ⟨R1, R2, R3, R4, g1, g2, g3, g4, fun b hb => (q0 b (p1 b hb)), fun b hb => (q0 b (q1 b (p2 b hb))), fun b hb => (q0 b (q1 b (q2 b (p3 b hb)))), fun b hb => (q0 b (q1 b (q2 b (q3 b (p4 b hb))))), fun b ha hb => d1 b ha (p2 b hb), fun b ha hb => d1 b ha (q2 b (p3 b hb)), fun b ha hb => d1 b ha (q2 b (q3 b (p4 b hb))), fun b ha hb => d2 b ha (p3 b hb), fun b ha hb => d2 b ha (q3 b (p4 b hb)), fun b ha hb => d3 b ha (p4 b hb)⟩
theorem ownPVat {w : World} {P1 P2 P3 P4 : Nat → Prop} {f0 : Int} {L1 : List Dat} {A1 : Option Addr} {n1 c1 : Nat} {L2 : List Dat} {A2 : Option Addr} {n2 c2 : Nat} {L3 : List Dat} {A3 : Option Addr} {n3 c3 : Nat} {L4 : List Dat} {A4 : Option Addr} {n4 c4 : Nat} (hO1 : Owns w (.l L1) [.slice A1 n1 c1] P1) (hO2 : Owns w (.l L2) [.slice A2 n2 c2] P2) (hO3 : Owns w (.l L3) [.slice A3 n3 c3] P3) (hO4 : Owns w (.l L4) [.slice A4 n4 c4] P4) (hd1x2 : ∀ b, P1 b → ¬ P2 b) (hd1x3 : ∀ b, P1 b → ¬ P3 b) (hd1x4 : ∀ b, P1 b → ¬ P4 b) (hd2x3 : ∀ b, P2 b → ¬ P3 b) (hd2x4 : ∀ b, P2 b → ¬ P4 b) (hd3x4 : ∀ b, P3 b → ¬ P4 b) : Owns w (.r [.i f0, .l L1, .l L2, .l L3, .l L4]) [.int .i64 f0, .slice A1 n1 c1, .slice A2 n2 c2, .slice A3 n3 c3, .slice A4 n4 c4] (fun b => P1 b ∨ P2 b ∨ P3 b ∨ P4 b ∨ False) := by
  rw [Owns]
  exact (OwnsAll.consF (c1 := [.int .i64 f0]) (d := .i f0) rfl (OwnsAll.consP hO1 (OwnsAll.consP hO2 (OwnsAll.consP hO3 (OwnsAll.consP hO4 (OwnsAll.nil_ _ (fun _ => False)) (fun b ha hb => hb.elim)) (fun b ha hb => by rcases hb with hb | hb <;> first | exact hd3x4 b ha hb | exact hb)) (fun b ha hb => by rcases hb with hb | hb | hb <;> first | exact hd2x3 b ha hb | exact hd2x4 b ha hb | exact hb)) (fun b ha hb => by rcases hb with hb | hb | hb | hb <;> first | exact hd1x2 b ha hb | exact hd1x3 b ha hb | exact hd1x4 b ha hb | exact hb)))
def MarkedRVat (f0 : Int) (L1 : List Dat) (A1 : Option Addr) (n1 c1 : Nat) (L2 : List Dat) (A2 : Option Addr) (n2 c2 : Nat) (L3 : List Dat) (A3 : Option Addr) (n3 c3 : Nat) (L4 : List Dat) (A4 : Option Addr) (n4 c4 : Nat) (z : Int) (P : Nat → Prop) (w : World) (e : Ending) (w' : World) : Prop := e = .returned (.int .i64 (z + cntAll L1 + cntAll L2 + cntAll L3 + cntAll L4)) ∧ Owns w' (.r [.i f0, .l (mkAll L1 (z)), .l (mkAll L2 (z + cntAll L1)), .l (mkAll L3 (z + cntAll L1 + cntAll L2)), .l (mkAll L4 (z + cntAll L1 + cntAll L2 + cntAll L3))]) [.int .i64 f0, .slice A1 n1 c1, .slice A2 n2 c2, .slice A3 n3 c3, .slice A4 n4 c4] P ∧ Touch P w w'
set_option maxHeartbeats 4000000 in
theorem markRVat (f0 : Int) (L1 : List Dat) (A1 : Option Addr) (n1 c1 : Nat) (L2 : List Dat) (A2 : Option Addr) (n2 c2 : Nat) (L3 : List Dat) (A3 : Option Addr) (n3 c3 : Nat) (L4 : List Dat) (A4 : Option Addr) (n4 c4 : Nat) (z : Int) (P : Nat → Prop) (w : World) (h : Owns w (.r [.i f0, .l L1, .l L2, .l L3, .l L4]) [.int .i64 f0, .slice A1 n1 c1, .slice A2 n2 c2, .slice A3 n3 c3, .slice A4 n4 c4] P) (ht1 : ∀ x ∈ L1, Has tyEntity x) (hn1 : n1 ≤ 1099511627776) (ht2 : ∀ x ∈ L2, Has tySent x) (hn2 : n2 ≤ 1099511627776) (ht3 : ∀ x ∈ L3, Has tyLink x) (hn3 : n3 ≤ 1099511627776) (ht4 : ∀ x ∈ L4, Has tyOutgoing x) (hn4 : n4 ≤ 1099511627776) (h0 : 0 < z) (h1 : z + cntAll L1 + cntAll L2 + cntAll L3 + cntAll L4 ≤ 1099511627776) (hP : ∀ b, P b → b < w.heap.size) :
    Calls Try.prog 26 #[.agg #[.int .i64 f0, .slice A1 n1 c1, .slice A2 n2 c2, .slice A3 n3 c3, .slice A4 n4 c4], .int .i64 z] w (MarkedRVat f0 L1 A1 n1 c1 L2 A2 n2 c2 L3 A3 n3 c3 L4 A4 n4 c4 z P w) := by
  have B0 : Hid (Below w.heap.size w (w.alloc (.cells #[.int .i64 f0, .slice A1 n1 c1, .slice A2 n2 c2, .slice A3 n3 c3, .slice A4 n4 c4] 29))) := Lib.hid ((Below.refl _ _).alloc (Nat.le_refl _) _)
  obtain ⟨P1, P2, P3, P4, h1, h2, h3, h4, hp1, hp2, hp3, hp4, hd1x2, hd1x3, hd1x4, hd2x3, hd2x4, hd3x4⟩ := partVat h
  have HPP := Lib.hid hP
  have HTo : Hid (Touch P w (w.alloc (.cells #[.int .i64 f0, .slice A1 n1 c1, .slice A2 n2 c2, .slice A3 n3 c3, .slice A4 n4 c4] 29))) := Lib.hid (Touch.of_below B0.out)
  have Y : Hid (Box w.heap.size [.int .i64 f0, .slice A1 n1 c1, .slice A2 n2 c2, .slice A3 n3 c3, .slice A4 n4 c4] (w.alloc (.cells #[.int .i64 f0, .slice A1 n1 c1, .slice A2 n2 c2, .slice A3 n3 c3, .slice A4 n4 c4] 29))) := Lib.hid (Box.new w #[.int .i64 f0, .slice A1 n1 c1, .slice A2 n2 c2, .slice A3 n3 c3, .slice A4 n4 c4] 29)
  have H1 := Lib.hid (h1.below B0.out)
  have HT1 := Lib.hid ht1
  have HP1 := Lib.hid hp1
  have H2 := Lib.hid (h2.below B0.out)
  have HT2 := Lib.hid ht2
  have HP2 := Lib.hid hp2
  have H3 := Lib.hid (h3.below B0.out)
  have HT3 := Lib.hid ht3
  have HP3 := Lib.hid hp3
  have H4 := Lib.hid (h4.below B0.out)
  have HT4 := Lib.hid ht4
  have HP4 := Lib.hid hp4
  have HD1x2 := Lib.hid hd1x2
  have HD1x3 := Lib.hid hd1x3
  have HD1x4 := Lib.hid hd1x4
  have HD2x3 := Lib.hid hd2x3
  have HD2x4 := Lib.hid hd2x4
  have HD3x4 := Lib.hid hd3x4
  clear h hP B0 h1 ht1 hp1 h2 ht2 hp2 h3 ht3 hp3 h4 ht4 hp4 hd1x2 hd1x3 hd1x4 hd2x3 hd2x4 hd3x4
  go_enter Try.func26, Try.ntmps26
  go_wp2_with fail
  refine (markEntityS L1 A1 n1 c1 (z) P1 _ H1.out HT1.out (by omega) (by omega) hn1).mono ?_
  rintro e w1 ⟨rfl, hO, hT⟩
  replace H2 := Lib.hid (H2.out.touch hT (fun b h1 h2 => HD1x2.out b h2 h1))
  replace H3 := Lib.hid (H3.out.touch hT (fun b h1 h2 => HD1x3.out b h2 h1))
  replace H4 := Lib.hid (H4.out.touch hT (fun b h1 h2 => HD1x4.out b h2 h1))
  replace H1 := Lib.hid hO
  replace Y : Hid (Box w.heap.size [.int .i64 f0, .slice A1 n1 c1, .slice A2 n2 c2, .slice A3 n3 c3, .slice A4 n4 c4] w1) := Lib.hid (Y.out.touch hT (fun hb => Nat.lt_irrefl _ (HPP.out _ (HP1.out _ hb))))
  replace HTo : Hid (Touch P w w1) := Lib.hid (HTo.out.trans (hT.mono (fun b hb => HP1.out b hb)))
  clear hO hT
  have y2 := Y.out.2 2 (.slice A2 n2 c2) rfl
  go_wp2_with fail
  refine (markSentS L2 A2 n2 c2 (z + cntAll L1) P2 _ H2.out HT2.out (by omega) (by omega) hn2).mono ?_
  rintro e w2 ⟨rfl, hO, hT⟩
  clear y2
  replace H1 := Lib.hid (H1.out.touch hT (fun b h1 h2 => HD1x2.out b h1 h2))
  replace H3 := Lib.hid (H3.out.touch hT (fun b h1 h2 => HD2x3.out b h2 h1))
  replace H4 := Lib.hid (H4.out.touch hT (fun b h1 h2 => HD2x4.out b h2 h1))
  replace H2 := Lib.hid hO
  replace Y : Hid (Box w.heap.size [.int .i64 f0, .slice A1 n1 c1, .slice A2 n2 c2, .slice A3 n3 c3, .slice A4 n4 c4] w2) := Lib.hid (Y.out.touch hT (fun hb => Nat.lt_irrefl _ (HPP.out _ (HP2.out _ hb))))
  replace HTo : Hid (Touch P w w2) := Lib.hid (HTo.out.trans (hT.mono (fun b hb => HP2.out b hb)))
  clear hO hT
  have y3 := Y.out.2 3 (.slice A3 n3 c3) rfl
  go_wp2_with fail
  refine (markLinkS L3 A3 n3 c3 (z + cntAll L1 + cntAll L2) P3 _ H3.out HT3.out (by omega) (by omega) hn3).mono ?_
  rintro e w3 ⟨rfl, hO, hT⟩
  clear y3
  replace H1 := Lib.hid (H1.out.touch hT (fun b h1 h2 => HD1x3.out b h1 h2))
  replace H2 := Lib.hid (H2.out.touch hT (fun b h1 h2 => HD2x3.out b h1 h2))
  replace H4 := Lib.hid (H4.out.touch hT (fun b h1 h2 => HD3x4.out b h2 h1))
  replace H3 := Lib.hid hO
  replace Y : Hid (Box w.heap.size [.int .i64 f0, .slice A1 n1 c1, .slice A2 n2 c2, .slice A3 n3 c3, .slice A4 n4 c4] w3) := Lib.hid (Y.out.touch hT (fun hb => Nat.lt_irrefl _ (HPP.out _ (HP3.out _ hb))))
  replace HTo : Hid (Touch P w w3) := Lib.hid (HTo.out.trans (hT.mono (fun b hb => HP3.out b hb)))
  clear hO hT
  have y4 := Y.out.2 4 (.slice A4 n4 c4) rfl
  go_wp2_with fail
  refine (markOutgoingS L4 A4 n4 c4 (z + cntAll L1 + cntAll L2 + cntAll L3) P4 _ H4.out HT4.out (by omega) (by omega) hn4).mono ?_
  rintro e w4 ⟨rfl, hO, hT⟩
  clear y4
  replace H1 := Lib.hid (H1.out.touch hT (fun b h1 h2 => HD1x4.out b h1 h2))
  replace H2 := Lib.hid (H2.out.touch hT (fun b h1 h2 => HD2x4.out b h1 h2))
  replace H3 := Lib.hid (H3.out.touch hT (fun b h1 h2 => HD3x4.out b h1 h2))
  replace H4 := Lib.hid hO
  replace Y : Hid (Box w.heap.size [.int .i64 f0, .slice A1 n1 c1, .slice A2 n2 c2, .slice A3 n3 c3, .slice A4 n4 c4] w4) := Lib.hid (Y.out.touch hT (fun hb => Nat.lt_irrefl _ (HPP.out _ (HP4.out _ hb))))
  replace HTo : Hid (Touch P w w4) := Lib.hid (HTo.out.trans (hT.mono (fun b hb => HP4.out b hb)))
  clear hO hT
  go_wp2_with fail
  go_ret
  refine ⟨rfl, (ownPVat (f0 := f0) (L1 := mkAll L1 (z)) (L2 := mkAll L2 (z + cntAll L1)) (L3 := mkAll L3 (z + cntAll L1 + cntAll L2)) (L4 := mkAll L4 (z + cntAll L1 + cntAll L2 + cntAll L3)) H1.out H2.out H3.out H4.out HD1x2.out HD1x3.out HD1x4.out HD2x3.out HD2x4.out HD3x4.out).mono (fun b hb => ?_), HTo.out⟩
  rcases hb with hb | hb | hb | hb | hb
  · exact HP1.out b hb
  · exact HP2.out b hb
  · exact HP3.out b hb
  · exact HP4.out b hb
  · exact hb.elim
set_option maxHeartbeats 4000000 in
theorem heldRVat (f0 : Int) (L1 : List Dat) (A1 : Option Addr) (n1 c1 : Nat) (L2 : List Dat) (A2 : Option Addr) (n2 c2 : Nat) (L3 : List Dat) (A3 : Option Addr) (n3 c3 : Nat) (L4 : List Dat) (A4 : Option Addr) (n4 c4 : Nat) (z : Int) (w : World) (h1 : Lies w (.l (mkAll L1 (z))) [.slice A1 n1 c1]) (h2 : Lies w (.l (mkAll L2 (z + cntAll L1))) [.slice A2 n2 c2]) (h3 : Lies w (.l (mkAll L3 (z + cntAll L1 + cntAll L2))) [.slice A3 n3 c3]) (h4 : Lies w (.l (mkAll L4 (z + cntAll L1 + cntAll L2 + cntAll L3))) [.slice A4 n4 c4]) (ht1 : ∀ x ∈ L1, Has tyEntity x) (hn1 : n1 ≤ 1099511627776) (ht2 : ∀ x ∈ L2, Has tySent x) (hn2 : n2 ≤ 1099511627776) (ht3 : ∀ x ∈ L3, Has tyLink x) (hn3 : n3 ≤ 1099511627776) (ht4 : ∀ x ∈ L4, Has tyOutgoing x) (hn4 : n4 ≤ 1099511627776) (h0 : 0 < z) (h1 : z + cntAll L1 + cntAll L2 + cntAll L3 + cntAll L4 ≤ 1099511627776) :
    Calls Try.prog 27 #[.agg #[.int .i64 f0, .slice A1 n1 c1, .slice A2 n2 c2, .slice A3 n3 c3, .slice A4 n4 c4], .int .i64 z] w (GivesInt (z + cntAll L1 + cntAll L2 + cntAll L3 + cntAll L4) w) := by
  obtain ⟨z1, e1⟩ : ∃ u, z + (cntAll L1 : Int) = u := ⟨_, rfl⟩
  rw [e1] at h2 h3 h4 h1 ⊢
  obtain ⟨z2, e2⟩ : ∃ u, z1 + (cntAll L2 : Int) = u := ⟨_, rfl⟩
  rw [e2] at h3 h4 h1 ⊢
  obtain ⟨z3, e3⟩ : ∃ u, z2 + (cntAll L3 : Int) = u := ⟨_, rfl⟩
  rw [e3] at h4 h1 ⊢
  obtain ⟨z4, e4⟩ : ∃ u, z3 + (cntAll L4 : Int) = u := ⟨_, rfl⟩
  rw [e4] at  h1 ⊢
  have p1 : 0 < z1 := by omega
  have p2 : 0 < z2 := by omega
  have p3 : 0 < z3 := by omega
  have p4 : 0 < z4 := by omega
  have u1 : z + (cntAll L1 : Int) ≤ 1099511627776 := by omega
  have u2 : z1 + (cntAll L2 : Int) ≤ 1099511627776 := by omega
  have u3 : z2 + (cntAll L3 : Int) ≤ 1099511627776 := by omega
  have u4 : z3 + (cntAll L4 : Int) ≤ 1099511627776 := by omega
  have E1 := Lib.hid e1
  have E2 := Lib.hid e2
  have E3 := Lib.hid e3
  have E4 := Lib.hid e4
  clear e1 e2 e3 e4 h1
  have HB : Hid (Below w.heap.size w (w.alloc (.cells #[.int .i64 f0, .slice A1 n1 c1, .slice A2 n2 c2, .slice A3 n3 c3, .slice A4 n4 c4] 29))) := Lib.hid ((Below.refl _ _).alloc (Nat.le_refl _) _)
  have H1 := Lib.hid h1
  have HT1 := Lib.hid ht1
  have H2 := Lib.hid h2
  have HT2 := Lib.hid ht2
  have H3 := Lib.hid h3
  have HT3 := Lib.hid ht3
  have H4 := Lib.hid h4
  have HT4 := Lib.hid ht4
  have Y : Hid (Box w.heap.size [.int .i64 f0, .slice A1 n1 c1, .slice A2 n2 c2, .slice A3 n3 c3, .slice A4 n4 c4] (w.alloc (.cells #[.int .i64 f0, .slice A1 n1 c1, .slice A2 n2 c2, .slice A3 n3 c3, .slice A4 n4 c4] 29))) := Lib.hid (Box.new w #[.int .i64 f0, .slice A1 n1 c1, .slice A2 n2 c2, .slice A3 n3 c3, .slice A4 n4 c4] 29)
  clear h1 ht1 h2 ht2 h3 ht3 h4 ht4
  go_enter Try.func27, Try.ntmps27
  go_wp2_with fail
  refine (heldEntityS L1 A1 n1 c1 (z) _ (H1.out.below HB.out) HT1.out (by omega) (by omega) hn1).mono ?_
  rintro e w1 ⟨rfl, hb⟩
  rw [E1.out]
  replace Y : Hid (Box w.heap.size [.int .i64 f0, .slice A1 n1 c1, .slice A2 n2 c2, .slice A3 n3 c3, .slice A4 n4 c4] w1) := Lib.hid (Y.out.below hb)
  replace HB : Hid (Below w.heap.size w w1) := Lib.hid (HB.out.trans (hb.mono HB.out.size))
  clear hb
  have y2 := Y.out.2 2 (.slice A2 n2 c2) rfl
  go_wp2_with fail
  refine (heldSentS L2 A2 n2 c2 (z1) _ (H2.out.below HB.out) HT2.out (by omega) (by omega) hn2).mono ?_
  rintro e w2 ⟨rfl, hb⟩
  rw [E2.out]
  clear y2
  replace Y : Hid (Box w.heap.size [.int .i64 f0, .slice A1 n1 c1, .slice A2 n2 c2, .slice A3 n3 c3, .slice A4 n4 c4] w2) := Lib.hid (Y.out.below hb)
  replace HB : Hid (Below w.heap.size w w2) := Lib.hid (HB.out.trans (hb.mono HB.out.size))
  clear hb
  have y3 := Y.out.2 3 (.slice A3 n3 c3) rfl
  go_wp2_with fail
  refine (heldLinkS L3 A3 n3 c3 (z2) _ (H3.out.below HB.out) HT3.out (by omega) (by omega) hn3).mono ?_
  rintro e w3 ⟨rfl, hb⟩
  rw [E3.out]
  clear y3
  replace Y : Hid (Box w.heap.size [.int .i64 f0, .slice A1 n1 c1, .slice A2 n2 c2, .slice A3 n3 c3, .slice A4 n4 c4] w3) := Lib.hid (Y.out.below hb)
  replace HB : Hid (Below w.heap.size w w3) := Lib.hid (HB.out.trans (hb.mono HB.out.size))
  clear hb
  have y4 := Y.out.2 4 (.slice A4 n4 c4) rfl
  go_wp2_with fail
  refine (heldOutgoingS L4 A4 n4 c4 (z3) _ (H4.out.below HB.out) HT4.out (by omega) (by omega) hn4).mono ?_
  rintro e w4 ⟨rfl, hb⟩
  rw [E4.out]
  clear y4
  replace Y : Hid (Box w.heap.size [.int .i64 f0, .slice A1 n1 c1, .slice A2 n2 c2, .slice A3 n3 c3, .slice A4 n4 c4] w4) := Lib.hid (Y.out.below hb)
  replace HB : Hid (Below w.heap.size w w4) := Lib.hid (HB.out.trans (hb.mono HB.out.size))
  clear hb
  go_wp2_with fail
  go_ret
  exact GivesInt.ret rfl HB.out
end Go.Proofs.Ytmeacgpebpfpbaa
end
section
namespace Go.Proofs.Ytmeacgpebpfpbaa
open Go.RowKit
set_option linter.unusedVariables false
set_option linter.unusedSimpArgs false
theorem liesVat1 {w : World} {P : Nat → Prop} {f0 : Int} {L1 : List Dat} {A1 : Option Addr} {n1 c1 : Nat} {L2 : List Dat} {A2 : Option Addr} {n2 c2 : Nat} {L3 : List Dat} {A3 : Option Addr} {n3 c3 : Nat} {L4 : List Dat} {A4 : Option Addr} {n4 c4 : Nat} (h : Owns w (.r [.i f0, .l L1, .l L2, .l L3, .l L4]) [.int .i64 f0, .slice A1 n1 c1, .slice A2 n2 c2, .slice A3 n3 c3, .slice A4 n4 c4] P) : Lies w (.l L1) [.slice A1 n1 c1] := by
  obtain ⟨P1, P2, P3, P4, h1, -, -, -, -⟩ := partVat h
  exact h1.lies
theorem liesVat2 {w : World} {P : Nat → Prop} {f0 : Int} {L1 : List Dat} {A1 : Option Addr} {n1 c1 : Nat} {L2 : List Dat} {A2 : Option Addr} {n2 c2 : Nat} {L3 : List Dat} {A3 : Option Addr} {n3 c3 : Nat} {L4 : List Dat} {A4 : Option Addr} {n4 c4 : Nat} (h : Owns w (.r [.i f0, .l L1, .l L2, .l L3, .l L4]) [.int .i64 f0, .slice A1 n1 c1, .slice A2 n2 c2, .slice A3 n3 c3, .slice A4 n4 c4] P) : Lies w (.l L2) [.slice A2 n2 c2] := by
  obtain ⟨P1, P2, P3, P4, -, h2, -, -, -⟩ := partVat h
  exact h2.lies
theorem liesVat3 {w : World} {P : Nat → Prop} {f0 : Int} {L1 : List Dat} {A1 : Option Addr} {n1 c1 : Nat} {L2 : List Dat} {A2 : Option Addr} {n2 c2 : Nat} {L3 : List Dat} {A3 : Option Addr} {n3 c3 : Nat} {L4 : List Dat} {A4 : Option Addr} {n4 c4 : Nat} (h : Owns w (.r [.i f0, .l L1, .l L2, .l L3, .l L4]) [.int .i64 f0, .slice A1 n1 c1, .slice A2 n2 c2, .slice A3 n3 c3, .slice A4 n4 c4] P) : Lies w (.l L3) [.slice A3 n3 c3] := by
  obtain ⟨P1, P2, P3, P4, -, -, h3, -, -⟩ := partVat h
  exact h3.lies
theorem liesVat4 {w : World} {P : Nat → Prop} {f0 : Int} {L1 : List Dat} {A1 : Option Addr} {n1 c1 : Nat} {L2 : List Dat} {A2 : Option Addr} {n2 c2 : Nat} {L3 : List Dat} {A3 : Option Addr} {n3 c3 : Nat} {L4 : List Dat} {A4 : Option Addr} {n4 c4 : Nat} (h : Owns w (.r [.i f0, .l L1, .l L2, .l L3, .l L4]) [.int .i64 f0, .slice A1 n1 c1, .slice A2 n2 c2, .slice A3 n3 c3, .slice A4 n4 c4] P) : Lies w (.l L4) [.slice A4 n4 c4] := by
  obtain ⟨P1, P2, P3, P4, -, -, -, h4, -⟩ := partVat h
  exact h4.lies
theorem VatX.owns {P : Nat → Prop} {w : World} {f0 : Int} {L1 : List Dat} {A1 : Option Addr} {n1 c1 : Nat} {L2 : List Dat} {A2 : Option Addr} {n2 c2 : Nat} {L3 : List Dat} {A3 : Option Addr} {n3 c3 : Nat} {L4 : List Dat} {A4 : Option Addr} {n4 c4 : Nat} (h : VatX P w L1 A1 n1 c1 L2 A2 n2 c2 L3 A3 n3 c3 L4 A4 n4 c4) : Owns w (.r [.i f0, .l L1, .l L2, .l L3, .l L4]) [.int .i64 f0, .slice A1 n1 c1, .slice A2 n2 c2, .slice A3 n3 c3, .slice A4 n4 c4] P := by
  obtain ⟨P1, P2, P3, P4, ⟨h1, h2, h3, h4⟩, ⟨d12, d13, d14, d23, d24, d34⟩, ⟨u1, u2, u3, u4⟩⟩ := h
  exact (ownPVat h1.owns h2.owns h3.owns h4.owns d12 d13 d14 d23 d24 d34).mono (fun b hb => by
    rcases hb with hb | hb | hb | hb | hb
    · exact u1 b hb
    · exact u2 b hb
    · exact u3 b hb
    · exact u4 b hb
    · exact hb.elim)
theorem ownVat {w : World} {a0 a1 a2 a3 a4 : Nat} {f0 : Int} {L1 : List Dat} {A1 : Option Addr} {n1 c1 : Nat} {L2 : List Dat} {A2 : Option Addr} {n2 c2 : Nat} {L3 : List Dat} {A3 : Option Addr} {n3 c3 : Nat} {L4 : List Dat} {A4 : Option Addr} {n4 c4 : Nat} (hO1 : Owns w (.l L1) [.slice A1 n1 c1] (rng a0 a1)) (hO2 : Owns w (.l L2) [.slice A2 n2 c2] (rng a1 a2)) (hO3 : Owns w (.l L3) [.slice A3 n3 c3] (rng a2 a3)) (hO4 : Owns w (.l L4) [.slice A4 n4 c4] (rng a3 a4)) (ha0 : a0 ≤ a1) (ha1 : a1 ≤ a2) (ha2 : a2 ≤ a3) (ha3 : a3 ≤ a4) : Owns w (.r [.i f0, .l L1, .l L2, .l L3, .l L4]) [.int .i64 f0, .slice A1 n1 c1, .slice A2 n2 c2, .slice A3 n3 c3, .slice A4 n4 c4] (rng a0 a4) :=
  (ownPVat hO1 hO2 hO3 hO4 (fun b h k => by have h1 := h.2; have h2 := k.1; omega) (fun b h k => by have h1 := h.2; have h2 := k.1; omega) (fun b h k => by have h1 := h.2; have h2 := k.1; omega) (fun b h k => by have h1 := h.2; have h2 := k.1; omega) (fun b h k => by have h1 := h.2; have h2 := k.1; omega) (fun b h k => by have h1 := h.2; have h2 := k.1; omega)).mono (fun b hb => by
    rcases hb with hb | hb | hb | hb | hb
    · exact ⟨by have := hb.1; omega, by have := hb.2; omega⟩
    · exact ⟨by have := hb.1; omega, by have := hb.2; omega⟩
    · exact ⟨by have := hb.1; omega, by have := hb.2; omega⟩
    · exact ⟨by have := hb.1; omega, by have := hb.2; omega⟩
    · exact hb.elim)
end Go.Proofs.Ytmeacgpebpfpbaa
end
