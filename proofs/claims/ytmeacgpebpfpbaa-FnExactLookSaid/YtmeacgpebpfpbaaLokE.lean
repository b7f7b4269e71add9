/- Chapter 12: entityAt, keptPromise. -/
import Derived.Test.YtmeacgpebpfpbaaLokV
import Derived.Test.YtmeacgpebpfpbaaInsA
import Derived.Deep.RegionHeld3
import Derived.Deep.RegionLaw
import Derived.Deep.Cut
import Derived.Deep.CutRange
import Derived.LoopTactic
import Derived.Lib.Hide
import Derived.Deep.QuietTactic
import Derived.BigQuiet
import Derived.Deep.RegionWith
import Derived.Handy
namespace Go.Proofs.Ytmeacgpebpfpbaa
open Go.RowKit
set_option linter.unusedVariables false
set_option linter.unusedSimpArgs false
set_option maxHeartbeats 4000000 in
theorem implEntAt (f0 : Int) (L1 : List Dat) (b off : Nat) (n1 c1 : Nat) (L2 : List Dat) (A2 : Option Addr) (n2 c2 : Nat) (L3 : List Dat) (A3 : Option Addr) (n3 c3 : Nat) (L4 : List Dat) (A4 : Option Addr) (n4 c4 : Nat) (i : Nat) (w : World) (hi : i < n1) (hn1 : n1 ≤ 549755813888) :
    Calls Try.prog 112 #[.agg #[.int .i64 f0, .slice (some ⟨b, off, none⟩) n1 c1, .slice A2 n2 c2, .slice A3 n3 c3, .slice A4 n4 c4], .agg #[.int .i64 1, .int .i64 (i : Int)]] w (GivesX (.pointer (some ⟨b, off + i * 12, none⟩)) w) := by
  have HR : Hid (inR (i : Int) 0 ((n1 : Int) - 1) = true) := Lib.hid (by simp only [inR]; exact decide_eq_true ⟨by omega, by omega⟩)
  have hi0 : (0 : Int) ≤ i := by omega
  have hi1 : (i : Int) < n1 := by omega
  have HB : Hid (Below w.heap.size w ((w.alloc (.cells #[.int .i64 f0, .slice (some ⟨b, off, none⟩) n1 c1, .slice A2 n2 c2, .slice A3 n3 c3, .slice A4 n4 c4] 29)).alloc (.cells #[.int .i64 1, .int .i64 (i : Int)] 31))) := Lib.hid (by go_grown)
  go_enter Try.func112, Try.ntmps112
  go_wp2_with fail
  refine (implInR (i : Int) 0 ((n1 : Int) - 1) _).mono ?_
  rintro e w' ⟨rfl, rfl⟩
  rw [HR.out]
  go_wp2_with fail
  go_ret
  exact GivesX.ret HB.out
set_option maxHeartbeats 4000000 in
theorem implEntNo1 (f0 : Int) (L1 : List Dat) (A1 : Option Addr) (n1 c1 : Nat) (L2 : List Dat) (A2 : Option Addr) (n2 c2 : Nat) (L3 : List Dat) (A3 : Option Addr) (n3 c3 : Nat) (L4 : List Dat) (A4 : Option Addr) (n4 c4 : Nat) (k n : Int) (w : World) (hk : ¬ k = 1) :
    Calls Try.prog 112 #[.agg #[.int .i64 f0, .slice A1 n1 c1, .slice A2 n2 c2, .slice A3 n3 c3, .slice A4 n4 c4], .agg #[.int .i64 k, .int .i64 n]] w (GivesX (.pointer none) w) := by
  have hk1 : (k == 1) = false := by simpa using hk
  have HB : Hid (Below w.heap.size w ((w.alloc (.cells #[.int .i64 f0, .slice A1 n1 c1, .slice A2 n2 c2, .slice A3 n3 c3, .slice A4 n4 c4] 29)).alloc (.cells #[.int .i64 k, .int .i64 n] 31))) := Lib.hid (by go_grown)
  go_enter Try.func112, Try.ntmps112
  go_wp2_with fail
  go_ret
  exact GivesX.ret HB.out
set_option maxHeartbeats 4000000 in
theorem implEntNo2 (f0 : Int) (L1 : List Dat) (A1 : Option Addr) (n1 c1 : Nat) (L2 : List Dat) (A2 : Option Addr) (n2 c2 : Nat) (L3 : List Dat) (A3 : Option Addr) (n3 c3 : Nat) (L4 : List Dat) (A4 : Option Addr) (n4 c4 : Nat) (n : Int) (w : World) (hk : ¬ (0 ≤ n ∧ n < n1)) (hn1 : n1 ≤ 549755813888) :
    Calls Try.prog 112 #[.agg #[.int .i64 f0, .slice A1 n1 c1, .slice A2 n2 c2, .slice A3 n3 c3, .slice A4 n4 c4], .agg #[.int .i64 1, .int .i64 n]] w (GivesX (.pointer none) w) := by
  have HR : Hid (inR n 0 ((n1 : Int) - 1) = false) := Lib.hid (by simp only [inR]; exact decide_eq_false (by omega))
  have HB : Hid (Below w.heap.size w ((w.alloc (.cells #[.int .i64 f0, .slice A1 n1 c1, .slice A2 n2 c2, .slice A3 n3 c3, .slice A4 n4 c4] 29)).alloc (.cells #[.int .i64 1, .int .i64 n] 31))) := Lib.hid (by go_grown)
  go_enter Try.func112, Try.ntmps112
  go_wp2_with fail
  refine (implInR n 0 ((n1 : Int) - 1) _).mono ?_
  rintro e w' ⟨rfl, rfl⟩
  rw [HR.out]
  go_wp2_with fail
  go_ret
  exact GivesX.ret HB.out
theorem implEntNo (f0 : Int) (L1 : List Dat) (A1 : Option Addr) (n1 c1 : Nat) (L2 : List Dat) (A2 : Option Addr) (n2 c2 : Nat) (L3 : List Dat) (A3 : Option Addr) (n3 c3 : Nat) (L4 : List Dat) (A4 : Option Addr) (n4 c4 : Nat) (k n : Int) (w : World) (h : ¬ (k = 1 ∧ 0 ≤ n ∧ n < n1)) (hn1 : n1 ≤ 549755813888) :
    Calls Try.prog 112 #[.agg #[.int .i64 f0, .slice A1 n1 c1, .slice A2 n2 c2, .slice A3 n3 c3, .slice A4 n4 c4], .agg #[.int .i64 k, .int .i64 n]] w (GivesX (.pointer none) w) := by
  by_cases hk : k = 1
  · subst hk
    exact implEntNo2 f0 L1 A1 n1 c1 L2 A2 n2 c2 L3 A3 n3 c3 L4 A4 n4 c4 n w (fun h1 => h ⟨rfl, h1⟩) hn1
  · exact implEntNo1 f0 L1 A1 n1 c1 L2 A2 n2 c2 L3 A3 n3 c3 L4 A4 n4 c4 k n w hk
set_option maxHeartbeats 4000000 in
theorem implKeptNo (f0 : Int) (L1 : List Dat) (A1 : Option Addr) (n1 c1 : Nat) (L2 : List Dat) (A2 : Option Addr) (n2 c2 : Nat) (L3 : List Dat) (A3 : Option Addr) (n3 c3 : Nat) (L4 : List Dat) (A4 : Option Addr) (n4 c4 : Nat) (k n : Int) (w : World) (h : ¬ (k = 1 ∧ 0 ≤ n ∧ n < n1)) (hn1 : n1 ≤ 549755813888) :
    Calls Try.prog 48 #[.agg #[.int .i64 f0, .slice A1 n1 c1, .slice A2 n2 c2, .slice A3 n3 c3, .slice A4 n4 c4], .agg #[.int .i64 k, .int .i64 n]] w (GivesX (.pointer none) w) := by
  have H := Lib.hid h
  clear h
  have HB : Hid (Below w.heap.size w ((w.alloc (.cells #[.int .i64 f0, .slice A1 n1 c1, .slice A2 n2 c2, .slice A3 n3 c3, .slice A4 n4 c4] 29)).alloc (.cells #[.int .i64 k, .int .i64 n] 31))) := Lib.hid (by go_grown)
  have X := Lib.hid ((Box.new w #[.int .i64 f0, .slice A1 n1 c1, .slice A2 n2 c2, .slice A3 n3 c3, .slice A4 n4 c4] 29).alloc (.cells #[.int .i64 k, .int .i64 n] 31))
  have X2 := Lib.hid (by have h1 := Box.new (w.alloc (.cells #[.int .i64 f0, .slice A1 n1 c1, .slice A2 n2 c2, .slice A3 n3 c3, .slice A4 n4 c4] 29)) #[.int .i64 k, .int .i64 n] 31; simp only [World.size_alloc] at h1; exact h1)
  go_enter Try.func48, Try.ntmps48
  go_wp2_with fail
  refine (implEntNo f0 L1 A1 n1 c1 L2 A2 n2 c2 L3 A3 n3 c3 L4 A4 n4 c4 k n _ H.out hn1).mono ?_
  rintro e w1 ⟨rfl, hb⟩
  replace HB := Lib.hid (HB.out.trans (hb.mono HB.out.size))
  clear hb
  go_wp2_with fail
  go_ret
  exact GivesX.ret HB.out
set_option maxHeartbeats 4000000 in
theorem implKept (f0 : Int) (L1 : List Dat) (b off : Nat) (n1 c1 : Nat) (L2 : List Dat) (A2 : Option Addr) (n2 c2 : Nat) (L3 : List Dat) (A3 : Option Addr) (n3 c3 : Nat) (L4 : List Dat) (A4 : Option Addr) (n4 c4 : Nat) (i : Nat) (w : World) (hi : i < n1) (hbw : b < w.heap.size) (hr0 : w.cell? ⟨b, off + i * 12, none⟩ = some (.int .i64 2)) (hr3 : w.cell? ⟨b, off + i * 12 + 3, none⟩ = some (.int .i64 2)) (hn1 : n1 ≤ 549755813888) :
    Calls Try.prog 48 #[.agg #[.int .i64 f0, .slice (some ⟨b, off, none⟩) n1 c1, .slice A2 n2 c2, .slice A3 n3 c3, .slice A4 n4 c4], .agg #[.int .i64 1, .int .i64 (i : Int)]] w (GivesX (.pointer (some ⟨b, off + i * 12, none⟩)) w) := by
  have HB : Hid (Below w.heap.size w ((w.alloc (.cells #[.int .i64 f0, .slice (some ⟨b, off, none⟩) n1 c1, .slice A2 n2 c2, .slice A3 n3 c3, .slice A4 n4 c4] 29)).alloc (.cells #[.int .i64 1, .int .i64 (i : Int)] 31))) := Lib.hid (by go_grown)
  have X := Lib.hid ((Box.new w #[.int .i64 f0, .slice (some ⟨b, off, none⟩) n1 c1, .slice A2 n2 c2, .slice A3 n3 c3, .slice A4 n4 c4] 29).alloc (.cells #[.int .i64 1, .int .i64 (i : Int)] 31))
  have X2 := Lib.hid (by have h1 := Box.new (w.alloc (.cells #[.int .i64 f0, .slice (some ⟨b, off, none⟩) n1 c1, .slice A2 n2 c2, .slice A3 n3 c3, .slice A4 n4 c4] 29)) #[.int .i64 1, .int .i64 (i : Int)] 31; simp only [World.size_alloc] at h1; exact h1)
  go_enter Try.func48, Try.ntmps48
  go_wp2_with fail
  refine (implEntAt f0 L1 b off n1 c1 L2 A2 n2 c2 L3 A3 n3 c3 L4 A4 n4 c4 i _ hi hn1).mono ?_
  rintro e w1 ⟨rfl, hb⟩
  replace HB := Lib.hid (HB.out.trans (hb.mono HB.out.size))
  have r0 := (hb.cell (p := ⟨b, off + i * 12, none⟩) (by simp only [World.size_alloc]; show b < _; omega)).trans ((((Below.refl w.heap.size w).alloc (Nat.le_refl _) (.cells #[.int .i64 f0, .slice (some ⟨b, off, none⟩) n1 c1, .slice A2 n2 c2, .slice A3 n3 c3, .slice A4 n4 c4] 29)).alloc (by simp) (.cells #[.int .i64 1, .int .i64 (i : Int)] 31)).cell (p := ⟨b, off + i * 12, none⟩) hbw)
  rw [hr0] at r0
  clear hr0
  have r3 := (hb.cell (p := ⟨b, off + i * 12 + 3, none⟩) (by simp only [World.size_alloc]; show b < _; omega)).trans ((((Below.refl w.heap.size w).alloc (Nat.le_refl _) (.cells #[.int .i64 f0, .slice (some ⟨b, off, none⟩) n1 c1, .slice A2 n2 c2, .slice A3 n3 c3, .slice A4 n4 c4] 29)).alloc (by simp) (.cells #[.int .i64 1, .int .i64 (i : Int)] 31)).cell (p := ⟨b, off + i * 12 + 3, none⟩) hbw)
  rw [hr3] at r3
  clear hr3
  clear hb
  go_wp2_with fail
  go_ret
  exact GivesX.ret HB.out
set_option maxHeartbeats 4000000 in
theorem implKeptK (f0 : Int) (L1 : List Dat) (b off : Nat) (n1 c1 : Nat) (L2 : List Dat) (A2 : Option Addr) (n2 c2 : Nat) (L3 : List Dat) (A3 : Option Addr) (n3 c3 : Nat) (L4 : List Dat) (A4 : Option Addr) (n4 c4 : Nat) (i : Nat) (a0 : Int) (w : World) (hi : i < n1) (hbw : b < w.heap.size) (hr0 : w.cell? ⟨b, off + i * 12, none⟩ = some (.int .i64 a0)) (ha : ¬ a0 = 2) (hn1 : n1 ≤ 549755813888) :
    Calls Try.prog 48 #[.agg #[.int .i64 f0, .slice (some ⟨b, off, none⟩) n1 c1, .slice A2 n2 c2, .slice A3 n3 c3, .slice A4 n4 c4], .agg #[.int .i64 1, .int .i64 (i : Int)]] w (GivesX (.pointer none) w) := by
  have ha2 : (a0 == 2) = false := by simpa using ha
  have ha3 : (a0 != 2) = true := by simpa using ha
  clear ha
  have HB : Hid (Below w.heap.size w ((w.alloc (.cells #[.int .i64 f0, .slice (some ⟨b, off, none⟩) n1 c1, .slice A2 n2 c2, .slice A3 n3 c3, .slice A4 n4 c4] 29)).alloc (.cells #[.int .i64 1, .int .i64 (i : Int)] 31))) := Lib.hid (by go_grown)
  have X := Lib.hid ((Box.new w #[.int .i64 f0, .slice (some ⟨b, off, none⟩) n1 c1, .slice A2 n2 c2, .slice A3 n3 c3, .slice A4 n4 c4] 29).alloc (.cells #[.int .i64 1, .int .i64 (i : Int)] 31))
  have X2 := Lib.hid (by have h1 := Box.new (w.alloc (.cells #[.int .i64 f0, .slice (some ⟨b, off, none⟩) n1 c1, .slice A2 n2 c2, .slice A3 n3 c3, .slice A4 n4 c4] 29)) #[.int .i64 1, .int .i64 (i : Int)] 31; simp only [World.size_alloc] at h1; exact h1)
  go_enter Try.func48, Try.ntmps48
  go_wp2_with fail
  refine (implEntAt f0 L1 b off n1 c1 L2 A2 n2 c2 L3 A3 n3 c3 L4 A4 n4 c4 i _ hi hn1).mono ?_
  rintro e w1 ⟨rfl, hb⟩
  replace HB := Lib.hid (HB.out.trans (hb.mono HB.out.size))
  have r0 := (hb.cell (p := ⟨b, off + i * 12, none⟩) (by simp only [World.size_alloc]; show b < _; omega)).trans ((((Below.refl w.heap.size w).alloc (Nat.le_refl _) (.cells #[.int .i64 f0, .slice (some ⟨b, off, none⟩) n1 c1, .slice A2 n2 c2, .slice A3 n3 c3, .slice A4 n4 c4] 29)).alloc (by simp) (.cells #[.int .i64 1, .int .i64 (i : Int)] 31)).cell (p := ⟨b, off + i * 12, none⟩) hbw)
  rw [hr0] at r0
  clear hr0
  clear hb
  go_wp2_with fail
  go_ret
  exact GivesX.ret HB.out
set_option maxHeartbeats 4000000 in
theorem implKeptS (f0 : Int) (L1 : List Dat) (b off : Nat) (n1 c1 : Nat) (L2 : List Dat) (A2 : Option Addr) (n2 c2 : Nat) (L3 : List Dat) (A3 : Option Addr) (n3 c3 : Nat) (L4 : List Dat) (A4 : Option Addr) (n4 c4 : Nat) (i : Nat) (a3 : Int) (w : World) (hi : i < n1) (hbw : b < w.heap.size) (hr0 : w.cell? ⟨b, off + i * 12, none⟩ = some (.int .i64 2)) (hr3 : w.cell? ⟨b, off + i * 12 + 3, none⟩ = some (.int .i64 a3)) (ha : ¬ a3 = 2) (hn1 : n1 ≤ 549755813888) :
    Calls Try.prog 48 #[.agg #[.int .i64 f0, .slice (some ⟨b, off, none⟩) n1 c1, .slice A2 n2 c2, .slice A3 n3 c3, .slice A4 n4 c4], .agg #[.int .i64 1, .int .i64 (i : Int)]] w (GivesX (.pointer none) w) := by
  have ha2 : (a3 == 2) = false := by simpa using ha
  have ha3 : (a3 != 2) = true := by simpa using ha
  clear ha
  have HB : Hid (Below w.heap.size w ((w.alloc (.cells #[.int .i64 f0, .slice (some ⟨b, off, none⟩) n1 c1, .slice A2 n2 c2, .slice A3 n3 c3, .slice A4 n4 c4] 29)).alloc (.cells #[.int .i64 1, .int .i64 (i : Int)] 31))) := Lib.hid (by go_grown)
  have X := Lib.hid ((Box.new w #[.int .i64 f0, .slice (some ⟨b, off, none⟩) n1 c1, .slice A2 n2 c2, .slice A3 n3 c3, .slice A4 n4 c4] 29).alloc (.cells #[.int .i64 1, .int .i64 (i : Int)] 31))
  have X2 := Lib.hid (by have h1 := Box.new (w.alloc (.cells #[.int .i64 f0, .slice (some ⟨b, off, none⟩) n1 c1, .slice A2 n2 c2, .slice A3 n3 c3, .slice A4 n4 c4] 29)) #[.int .i64 1, .int .i64 (i : Int)] 31; simp only [World.size_alloc] at h1; exact h1)
  go_enter Try.func48, Try.ntmps48
  go_wp2_with fail
  refine (implEntAt f0 L1 b off n1 c1 L2 A2 n2 c2 L3 A3 n3 c3 L4 A4 n4 c4 i _ hi hn1).mono ?_
  rintro e w1 ⟨rfl, hb⟩
  replace HB := Lib.hid (HB.out.trans (hb.mono HB.out.size))
  have r0 := (hb.cell (p := ⟨b, off + i * 12, none⟩) (by simp only [World.size_alloc]; show b < _; omega)).trans ((((Below.refl w.heap.size w).alloc (Nat.le_refl _) (.cells #[.int .i64 f0, .slice (some ⟨b, off, none⟩) n1 c1, .slice A2 n2 c2, .slice A3 n3 c3, .slice A4 n4 c4] 29)).alloc (by simp) (.cells #[.int .i64 1, .int .i64 (i : Int)] 31)).cell (p := ⟨b, off + i * 12, none⟩) hbw)
  rw [hr0] at r0
  clear hr0
  have r3 := (hb.cell (p := ⟨b, off + i * 12 + 3, none⟩) (by simp only [World.size_alloc]; show b < _; omega)).trans ((((Below.refl w.heap.size w).alloc (Nat.le_refl _) (.cells #[.int .i64 f0, .slice (some ⟨b, off, none⟩) n1 c1, .slice A2 n2 c2, .slice A3 n3 c3, .slice A4 n4 c4] 29)).alloc (by simp) (.cells #[.int .i64 1, .int .i64 (i : Int)] 31)).cell (p := ⟨b, off + i * 12 + 3, none⟩) hbw)
  rw [hr3] at r3
  clear hr3
  clear hb
  go_wp2_with fail
  go_ret
  exact GivesX.ret HB.out
end Go.Proofs.Ytmeacgpebpfpbaa
