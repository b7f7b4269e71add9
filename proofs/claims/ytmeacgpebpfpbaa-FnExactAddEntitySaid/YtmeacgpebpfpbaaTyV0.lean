/- Chapter 12's data, by program. -/
import Derived.Test.YtmeacgpebpfpbaaTyE1
import Derived.Test.YtmeacgpebpfpbaaTyG1
import Derived.Test.YtmeacgpebpfpbaaTyM1
import Derived.LoopTactic
import Derived.Lib.Hide
import Derived.Deep.QuietTactic
import Derived.BigQuiet
import Derived.Deep.RegionWith
import Derived.Handy
namespace Go.Proofs.Ytmeacgpebpfpbaa
open Go.RowKit
set_option linter.unusedVariables false
set_option linter.unusedSimpArgs false
def tyOutgoing : Ty := .rcd [.int, .rcd [.int, .int, .int, .int, .str, .sl tyWire, .rcd [.int, .int], .int, .rcd [.int, .int, .int]]]
theorem invOutgoing {w : World} {d : Dat} {xs : List Value} (hT : Has tyOutgoing d) (h : Lies w d xs) : ∃ (f0 : Int) (f1_0 : Int) (f1_1 : Int) (f1_2 : Int) (f1_3 : Int) (f1_4 : ByteArray) (L1_5 : List Dat) (A1_5 : Option Addr) (n1_5 c1_5 : Nat) (f1_6_0 : Int) (f1_6_1 : Int) (f1_7 : Int) (f1_8_0 : Int) (f1_8_1 : Int) (f1_8_2 : Int), d = .r [.i f0, .r [.i f1_0, .i f1_1, .i f1_2, .i f1_3, .s f1_4, .l L1_5, .r [.i f1_6_0, .i f1_6_1], .i f1_7, .r [.i f1_8_0, .i f1_8_1, .i f1_8_2]]] ∧ xs = [.int .i64 f0, .int .i64 f1_0, .int .i64 f1_1, .int .i64 f1_2, .int .i64 f1_3, .string f1_4, .slice A1_5 n1_5 c1_5, .int .i64 f1_6_0, .int .i64 f1_6_1, .int .i64 f1_7, .int .i64 f1_8_0, .int .i64 f1_8_1, .int .i64 f1_8_2] ∧ f1_4.size ≤ 9223372036854775807 ∧ Lies w (.l L1_5) [.slice A1_5 n1_5 c1_5] ∧ (∀ x ∈ L1_5, Has tyWire x) ∧ n1_5 ≤ 9223372036854775807 := by
  simp only [tyOutgoing, Has, HasAll] at hT
  obtain ⟨ds, rfl, d0, r0, rfl, ⟨f0, rfl, -, -⟩, d1, r1, rfl, ⟨ds1, rfl, d1_0, r1_0, rfl, ⟨f1_0, rfl, -, -⟩, d1_1, r1_1, rfl, ⟨f1_1, rfl, -, -⟩, d1_2, r1_2, rfl, ⟨f1_2, rfl, -, -⟩, d1_3, r1_3, rfl, ⟨f1_3, rfl, -, -⟩, d1_4, r1_4, rfl, ⟨f1_4, rfl, hf1_4⟩, d1_5, r1_5, rfl, ⟨L1_5, rfl, hm1_5, ht1_5⟩, d1_6, r1_6, rfl, ⟨ds1_6, rfl, d1_6_0, r1_6_0, rfl, ⟨f1_6_0, rfl, -, -⟩, d1_6_1, r1_6_1, rfl, ⟨f1_6_1, rfl, -, -⟩, rfl⟩, d1_7, r1_7, rfl, ⟨f1_7, rfl, -, -⟩, d1_8, r1_8, rfl, ⟨ds1_8, rfl, d1_8_0, r1_8_0, rfl, ⟨f1_8_0, rfl, -, -⟩, d1_8_1, r1_8_1, rfl, ⟨f1_8_1, rfl, -, -⟩, d1_8_2, r1_8_2, rfl, ⟨f1_8_2, rfl, -, -⟩, rfl⟩, rfl⟩, rfl⟩ := hT
  simp only [Lies, LiesAll] at h
  obtain ⟨e0, q0, rfl, rfl, e1, q1, rfl, ⟨e1_0, q1_0, rfl, rfl, e1_1, q1_1, rfl, rfl, e1_2, q1_2, rfl, rfl, e1_3, q1_3, rfl, rfl, e1_4, q1_4, rfl, rfl, e1_5, q1_5, rfl, ⟨A1_5, n1_5, c1_5, rfl, hn1_5, hh1_5⟩, e1_6, q1_6, rfl, ⟨e1_6_0, q1_6_0, rfl, rfl, e1_6_1, q1_6_1, rfl, rfl, rfl⟩, e1_7, q1_7, rfl, rfl, e1_8, q1_8, rfl, ⟨e1_8_0, q1_8_0, rfl, rfl, e1_8_1, q1_8_1, rfl, rfl, e1_8_2, q1_8_2, rfl, rfl, rfl⟩, rfl⟩, rfl⟩ := h
  exact ⟨f0, f1_0, f1_1, f1_2, f1_3, f1_4, L1_5, A1_5, n1_5, c1_5, f1_6_0, f1_6_1, f1_7, f1_8_0, f1_8_1, f1_8_2, rfl, rfl, hf1_4, (by rw [Lies]; exact ⟨A1_5, n1_5, c1_5, rfl, hn1_5, hh1_5⟩), ht1_5, (hn1_5 ▸ hm1_5)⟩
def tyVat : Ty := .rcd [.int, .sl tyEntity, .sl tySent, .sl tyLink, .sl tyOutgoing]
theorem tiedVat : tiedB Try.prog tyVat 60 = true := by kernel_rfl
theorem invVat {w : World} {d : Dat} {xs : List Value} (hT : Has tyVat d) (h : Lies w d xs) : ∃ (f0 : Int) (L1 : List Dat) (A1 : Option Addr) (n1 c1 : Nat) (L2 : List Dat) (A2 : Option Addr) (n2 c2 : Nat) (L3 : List Dat) (A3 : Option Addr) (n3 c3 : Nat) (L4 : List Dat) (A4 : Option Addr) (n4 c4 : Nat), d = .r [.i f0, .l L1, .l L2, .l L3, .l L4] ∧ xs = [.int .i64 f0, .slice A1 n1 c1, .slice A2 n2 c2, .slice A3 n3 c3, .slice A4 n4 c4] ∧ Lies w (.l L1) [.slice A1 n1 c1] ∧ (∀ x ∈ L1, Has tyEntity x) ∧ n1 ≤ 9223372036854775807 ∧ Lies w (.l L2) [.slice A2 n2 c2] ∧ (∀ x ∈ L2, Has tySent x) ∧ n2 ≤ 9223372036854775807 ∧ Lies w (.l L3) [.slice A3 n3 c3] ∧ (∀ x ∈ L3, Has tyLink x) ∧ n3 ≤ 9223372036854775807 ∧ Lies w (.l L4) [.slice A4 n4 c4] ∧ (∀ x ∈ L4, Has tyOutgoing x) ∧ n4 ≤ 9223372036854775807 := by
  simp only [tyVat, Has, HasAll] at hT
  obtain ⟨ds, rfl, d0, r0, rfl, ⟨f0, rfl, -, -⟩, d1, r1, rfl, ⟨L1, rfl, hm1, ht1⟩, d2, r2, rfl, ⟨L2, rfl, hm2, ht2⟩, d3, r3, rfl, ⟨L3, rfl, hm3, ht3⟩, d4, r4, rfl, ⟨L4, rfl, hm4, ht4⟩, rfl⟩ := hT
  simp only [Lies, LiesAll] at h
  obtain ⟨e0, q0, rfl, rfl, e1, q1, rfl, ⟨A1, n1, c1, rfl, hn1, hh1⟩, e2, q2, rfl, ⟨A2, n2, c2, rfl, hn2, hh2⟩, e3, q3, rfl, ⟨A3, n3, c3, rfl, hn3, hh3⟩, e4, q4, rfl, ⟨A4, n4, c4, rfl, hn4, hh4⟩, rfl⟩ := h
  exact ⟨f0, L1, A1, n1, c1, L2, A2, n2, c2, L3, A3, n3, c3, L4, A4, n4, c4, rfl, rfl, (by rw [Lies]; exact ⟨A1, n1, c1, rfl, hn1, hh1⟩), ht1, (hn1 ▸ hm1), (by rw [Lies]; exact ⟨A2, n2, c2, rfl, hn2, hh2⟩), ht2, (hn2 ▸ hm2), (by rw [Lies]; exact ⟨A3, n3, c3, rfl, hn3, hh3⟩), ht3, (hn3 ▸ hm3), (by rw [Lies]; exact ⟨A4, n4, c4, rfl, hn4, hh4⟩), ht4, (hn4 ▸ hm4)⟩
end Go.Proofs.Ytmeacgpebpfpbaa
