/- Chapter 9: what is pending, the slots, both sides. -/
import Derived.Test.YtfgijebgnkikpaaEntV
import Derived.Test.YtfgijebgnkikpaaImplV
import Derived.LoopTactic
import Derived.Lib.Hide
import Derived.Deep.QuietTactic
import Derived.BigQuiet
import Derived.Deep.RegionWith
import Derived.Handy
namespace Go.Proofs.Ytfgijebgnkikpaa
open Go.RowKit
set_option linter.unusedVariables false
set_option linter.unusedSimpArgs false
/-- What is pending. -/
def pend (k st : Int) : Bool := decide (k = 2 ∧ (st = 1 ∨ st = 3 ∨ st = 4))
theorem pend_yes {k st : Int} (h : k = 2 ∧ (st = 1 ∨ st = 3 ∨ st = 4)) : pend k st = true := decide_eq_true h
theorem pend_no {k st : Int} (h : ¬ (k = 2 ∧ (st = 1 ∨ st = 3 ∨ st = 4))) : pend k st = false := decide_eq_false h
theorem specInB (n a b : Int) (w : World) : Calls Try.prog 55 #[.int .i64 n, .int .i64 a, .int .i64 b] w fun e w' => e = .returned (.bool (decide (a ≤ n ∧ n ≤ b))) ∧ w' = w := by
  by_cases h1 : a ≤ n
  · by_cases h2 : n ≤ b
    · have hd : decide (a ≤ n ∧ n ≤ b) = true := decide_eq_true ⟨h1, h2⟩
      rw [hd]
      go_enter Try.func55, Try.ntmps55
      go_wp2
      go_ret
      exact ⟨rfl, rfl⟩
    · have hd : decide (a ≤ n ∧ n ≤ b) = false := decide_eq_false (fun h => h2 h.2)
      rw [hd]
      go_enter Try.func55, Try.ntmps55
      go_wp2
      go_ret
      exact ⟨rfl, rfl⟩
  · have hd : decide (a ≤ n ∧ n ≤ b) = false := decide_eq_false (fun h => h1 h.1)
    rw [hd]
    go_enter Try.func55, Try.ntmps55
    go_wp2
    go_ret
    exact ⟨rfl, rfl⟩
theorem implInB (n a b : Int) (w : World) : Calls Try.prog 53 #[.int .i64 n, .int .i64 a, .int .i64 b] w fun e w' => e = .returned (.bool (decide (a ≤ n ∧ n ≤ b))) ∧ w' = w := by
  by_cases h1 : a ≤ n
  · by_cases h2 : n ≤ b
    · have hd : decide (a ≤ n ∧ n ≤ b) = true := decide_eq_true ⟨h1, h2⟩
      rw [hd]
      go_enter Try.func53, Try.ntmps53
      go_wp2
      go_ret
      exact ⟨rfl, rfl⟩
    · have hd : decide (a ≤ n ∧ n ≤ b) = false := decide_eq_false (fun h => h2 h.2)
      rw [hd]
      go_enter Try.func53, Try.ntmps53
      go_wp2
      go_ret
      exact ⟨rfl, rfl⟩
  · have hd : decide (a ≤ n ∧ n ≤ b) = false := decide_eq_false (fun h => h1 h.1)
    rw [hd]
    go_enter Try.func53, Try.ntmps53
    go_wp2
    go_ret
    exact ⟨rfl, rfl⟩
theorem implIsPend (f0 : Int) (f1 : Int) (L2 : List Dat) (A2 : Option Addr) (n2 c2 : Nat) (f3 : Int) (f4_0 : Int) (f4_1 : Int) (L5 : List Dat) (A5 : Option Addr) (n5 c5 : Nat) (L6 : List Dat) (A6 : Option Addr) (n6 c6 : Nat) (f7 : Int) (f8 : Int) (f9 : Int) (f10 : Int) (w : World) : Calls Try.prog 23 #[.agg #[.int .i64 f0, .int .i64 f1, .slice A2 n2 c2, .int .i64 f3, .int .i64 f4_0, .int .i64 f4_1, .slice A5 n5 c5, .slice A6 n6 c6, .int .i64 f7, .int .i64 f8, .int .i64 f9, .int .i64 f10]] w (GivesBool (pend f0 f3) w) := by
  have HB : Hid (Below w.heap.size w (w.alloc (.cells #[.int .i64 f0, .int .i64 f1, .slice A2 n2 c2, .int .i64 f3, .int .i64 f4_0, .int .i64 f4_1, .slice A5 n5 c5, .slice A6 n6 c6, .int .i64 f7, .int .i64 f8, .int .i64 f9, .int .i64 f10] 30))) := Lib.hid (by go_grown)
  by_cases e0 : f0 = 2
  · subst e0
    by_cases e1 : f3 = 1
    · subst e1
      go_enter Try.func23, Try.ntmps23
      go_wp2
      go_ret
      exact GivesBool.of rfl HB.out
    · by_cases e3 : f3 = 3
      · subst e3
        go_enter Try.func23, Try.ntmps23
        go_wp2
        go_ret
        exact GivesBool.of rfl HB.out
      · have HE : Hid ((f3 == 4) = pend 2 f3) := Lib.hid (by simp only [pend, e1, e3, false_or, true_and]; rw [Bool.eq_iff_iff]; simp)
        have b1 : (f3 == 1) = false := by simpa using e1
        have b3 : (f3 == 3) = false := by simpa using e3
        clear e1 e3
        go_enter Try.func23, Try.ntmps23
        go_wp2
        go_ret
        exact GivesBool.of HE.out HB.out
  · have HE : Hid (false = pend f0 f3) := Lib.hid (pend_no (fun h => e0 h.1)).symm
    have b0 : (f0 == 2) = false := by simpa using e0
    go_enter Try.func23, Try.ntmps23
    go_wp2
    go_ret
    exact GivesBool.of HE.out HB.out
theorem specIsPend (f0 : Int) (f1 : Int) (L2 : List Dat) (A2 : Option Addr) (n2 c2 : Nat) (f3 : Int) (f4_0 : Int) (f4_1 : Int) (L5 : List Dat) (A5 : Option Addr) (n5 c5 : Nat) (L6 : List Dat) (A6 : Option Addr) (n6 c6 : Nat) (f7 : Int) (f8 : Int) (f9 : Int) (f10 : Int) (w : World) : Calls Try.prog 24 #[.agg #[.int .i64 f0, .int .i64 f1, .slice A2 n2 c2, .int .i64 f3, .int .i64 f4_0, .int .i64 f4_1, .slice A5 n5 c5, .slice A6 n6 c6, .int .i64 f7, .int .i64 f8, .int .i64 f9, .int .i64 f10]] w (GivesBool (pend f0 f3) w) := by
  have HB : Hid (Below w.heap.size w (w.alloc (.cells #[.int .i64 f0, .int .i64 f1, .slice A2 n2 c2, .int .i64 f3, .int .i64 f4_0, .int .i64 f4_1, .slice A5 n5 c5, .slice A6 n6 c6, .int .i64 f7, .int .i64 f8, .int .i64 f9, .int .i64 f10] 30))) := Lib.hid (by go_grown)
  by_cases e0 : f0 = 2
  · subst e0
    by_cases e1 : 1 ≤ f3 ∧ f3 ≤ 4
    · have hd : Hid (decide (1 ≤ f3 ∧ f3 ≤ 4) = true) := Lib.hid (decide_eq_true e1)
      by_cases e2 : f3 = 2
      · subst e2
        go_enter Try.func24, Try.ntmps24
        go_wp2_with ((with_reducible refine (specInB _ _ _ _).mono ?_); rintro e w1 ⟨rfl, rfl⟩; rw [hd.out])
        go_ret
        exact GivesBool.of rfl HB.out
      · have b2 : (f3 == 2) = false := by simpa using e2
        have HE : Hid ((f3 != 2) = pend 2 f3) := Lib.hid (by rw [pend_yes ⟨rfl, by omega⟩]; simp [e2])
        clear e2
        go_enter Try.func24, Try.ntmps24
        go_wp2_with ((with_reducible refine (specInB _ _ _ _).mono ?_); rintro e w1 ⟨rfl, rfl⟩; rw [hd.out])
        go_ret
        exact GivesBool.of HE.out HB.out
    · have hd : Hid (decide (1 ≤ f3 ∧ f3 ≤ 4) = false) := Lib.hid (decide_eq_false e1)
      have HE : Hid (false = pend 2 f3) := Lib.hid (pend_no (fun h => e1 (by omega))).symm
      clear e1
      go_enter Try.func24, Try.ntmps24
      go_wp2_with ((with_reducible refine (specInB _ _ _ _).mono ?_); rintro e w1 ⟨rfl, rfl⟩; rw [hd.out])
      go_ret
      exact GivesBool.of HE.out HB.out
  · have HE : Hid (false = pend f0 f3) := Lib.hid (pend_no (fun h => e0 h.1)).symm
    have b0 : (f0 == 2) = false := by simpa using e0
    go_enter Try.func24, Try.ntmps24
    go_wp2
    go_ret
    exact GivesBool.of HE.out HB.out
/-- The slot at an index; beyond them the number 0. -/
def slotV (L : List Dat) (i : Int) : V := if 0 ≤ i then (match L[i.toNat]? with | some d => vOf d | none => ⟨0, 0⟩) else ⟨0, 0⟩
theorem slotV_no {L : List Dat} {n : Nat} {i : Int} (hn : L.length = n) (h : ¬ (0 ≤ i ∧ i ≤ (n : Int) - 1)) : slotV L i = ⟨0, 0⟩ := by
  unfold slotV
  by_cases h0 : 0 ≤ i
  · rw [if_pos h0, List.getElem?_eq_none (by omega)]
  · rw [if_neg h0]
theorem slotV_at {L : List Dat} {k : Nat} {a b : Int} (h : L[k]? = some (.r [.i a, .i b])) : slotV L (k : Int) = ⟨a, b⟩ := by
  unfold slotV
  rw [if_pos (by omega), Int.toNat_natCast, h]
  rfl
set_option maxHeartbeats 2000000 in
theorem specSlot (f0 : Int) (f1 : Int) (L2 : List Dat) (A2 : Option Addr) (n2 c2 : Nat) (f3 : Int) (f4_0 : Int) (f4_1 : Int) (L5 : List Dat) (A5 : Option Addr) (n5 c5 : Nat) (L6 : List Dat) (A6 : Option Addr) (n6 c6 : Nat) (f7 : Int) (f8 : Int) (f9 : Int) (f10 : Int) (i : Int) (w : World) (hl : Lies w (.l L2) [.slice A2 n2 c2]) (ht : ∀ x ∈ L2, Has tyValue x) (hn : n2 ≤ 1099511627776) (hi : -9223372036854775808 ≤ i ∧ i ≤ 9223372036854775807) : Calls Try.prog 38 #[.agg #[.int .i64 f0, .int .i64 f1, .slice A2 n2 c2, .int .i64 f3, .int .i64 f4_0, .int .i64 f4_1, .slice A5 n5 c5, .slice A6 n6 c6, .int .i64 f7, .int .i64 f8, .int .i64 f9, .int .i64 f10], .int .i64 i] w (GivesV (slotV L2 i) w) := by
  have HB : Hid (Below w.heap.size w (w.alloc (.cells #[.int .i64 f0, .int .i64 f1, .slice A2 n2 c2, .int .i64 f3, .int .i64 f4_0, .int .i64 f4_1, .slice A5 n5 c5, .slice A6 n6 c6, .int .i64 f7, .int .i64 f8, .int .i64 f9, .int .i64 f10] 30))) := Lib.hid (by go_grown)
  have hc := hl.count
  by_cases h : 0 ≤ i ∧ i ≤ (n2 : Int) - 1
  · obtain ⟨k, rfl⟩ : ∃ k : Nat, i = k := ⟨i.toNat, by omega⟩
    have hk : k < n2 := by omega
    obtain ⟨b, off, d, xs, rfl, hbw, hzi, hlie, hlen, hcell⟩ := hl.elem (fun x hx => (ht x hx).width) hk
    obtain ⟨a0, a1, rfl, rfl⟩ := invValue (ht d (List.mem_of_getElem? hzi)) hlie
    have hdo : (wo : Obj) → (w.alloc wo).cell? ⟨b, off + k * 2, none⟩ = some (.int .i64 a0) ∧ (w.alloc wo).cell? ⟨b, off + k * 2 + 1, none⟩ = some (.int .i64 a1) := fun o => ⟨(((Below.refl w.heap.size w).alloc (Nat.le_refl _) o).cell (p := ⟨b, off + k * 2, none⟩) hbw).trans (hcell 0 _ rfl), (((Below.refl w.heap.size w).alloc (Nat.le_refl _) o).cell (p := ⟨b, off + k * 2 + 1, none⟩) hbw).trans (hcell 1 _ rfl)⟩
    obtain ⟨r0, r1⟩ := hdo (.cells #[.int .i64 f0, .int .i64 f1, .slice (some ⟨b, off, none⟩) n2 c2, .int .i64 f3, .int .i64 f4_0, .int .i64 f4_1, .slice A5 n5 c5, .slice A6 n6 c6, .int .i64 f7, .int .i64 f8, .int .i64 f9, .int .i64 f10] 30)
    have hd : Hid (decide (0 ≤ (k : Int) ∧ (k : Int) ≤ (n2 : Int) - 1) = true) := Lib.hid (decide_eq_true h)
    have HE := Lib.hid (slotV_at hzi)
    have hk0 : (0 : Int) ≤ k := by omega
    have hk1 : (k : Int) < n2 := by omega
    clear hcell hzi hlie hlen h hdo hc ht
    go_enter Try.func38, Try.ntmps38
    go_wp2_with ((with_reducible refine (specInB _ _ _ _).mono ?_); rintro e w1 ⟨rfl, rfl⟩; rw [hd.out])
    refine bodyPost_ret (v := .agg #[.int .i64 a0, .int .i64 a1]) (by simp [results, Try.results38, go_sem]) rfl ?_
    rw [HE.out]
    exact ⟨rfl, by go_grown⟩
  · have hd : Hid (decide (0 ≤ i ∧ i ≤ (n2 : Int) - 1) = false) := Lib.hid (decide_eq_false h)
    have HE := Lib.hid (slotV_no hc h)
    clear h hc ht
    go_enter Try.func38, Try.ntmps38
    go_wp2_with ((with_reducible refine (specInB _ _ _ _).mono ?_); rintro e w1 ⟨rfl, rfl⟩; rw [hd.out])
    refine bodyPost_ret (v := .agg #[.int .i64 0, .int .i64 0]) (by simp [results, Try.results38, go_sem]) rfl ?_
    rw [HE.out]
    exact ⟨rfl, by go_grown⟩
set_option maxHeartbeats 2000000 in
theorem implSlot (f0 : Int) (f1 : Int) (L2 : List Dat) (A2 : Option Addr) (n2 c2 : Nat) (f3 : Int) (f4_0 : Int) (f4_1 : Int) (L5 : List Dat) (A5 : Option Addr) (n5 c5 : Nat) (L6 : List Dat) (A6 : Option Addr) (n6 c6 : Nat) (f7 : Int) (f8 : Int) (f9 : Int) (f10 : Int) (i : Int) (w : World) (hl : Lies w (.l L2) [.slice A2 n2 c2]) (ht : ∀ x ∈ L2, Has tyValue x) (hn : n2 ≤ 1099511627776) (hi : -9223372036854775808 ≤ i ∧ i ≤ 9223372036854775807) : Calls Try.prog 17 #[.agg #[.int .i64 f0, .int .i64 f1, .slice A2 n2 c2, .int .i64 f3, .int .i64 f4_0, .int .i64 f4_1, .slice A5 n5 c5, .slice A6 n6 c6, .int .i64 f7, .int .i64 f8, .int .i64 f9, .int .i64 f10], .int .i64 i] w (GivesV (slotV L2 i) w) := by
  have HB : Hid (Below w.heap.size w (w.alloc (.cells #[.int .i64 f0, .int .i64 f1, .slice A2 n2 c2, .int .i64 f3, .int .i64 f4_0, .int .i64 f4_1, .slice A5 n5 c5, .slice A6 n6 c6, .int .i64 f7, .int .i64 f8, .int .i64 f9, .int .i64 f10] 30))) := Lib.hid (by go_grown)
  have hc := hl.count
  by_cases h : 0 ≤ i ∧ i ≤ (n2 : Int) - 1
  · obtain ⟨k, rfl⟩ : ∃ k : Nat, i = k := ⟨i.toNat, by omega⟩
    have hk : k < n2 := by omega
    obtain ⟨b, off, d, xs, rfl, hbw, hzi, hlie, hlen, hcell⟩ := hl.elem (fun x hx => (ht x hx).width) hk
    obtain ⟨a0, a1, rfl, rfl⟩ := invValue (ht d (List.mem_of_getElem? hzi)) hlie
    have hdo : (wo : Obj) → (w.alloc wo).cell? ⟨b, off + k * 2, none⟩ = some (.int .i64 a0) ∧ (w.alloc wo).cell? ⟨b, off + k * 2 + 1, none⟩ = some (.int .i64 a1) := fun o => ⟨(((Below.refl w.heap.size w).alloc (Nat.le_refl _) o).cell (p := ⟨b, off + k * 2, none⟩) hbw).trans (hcell 0 _ rfl), (((Below.refl w.heap.size w).alloc (Nat.le_refl _) o).cell (p := ⟨b, off + k * 2 + 1, none⟩) hbw).trans (hcell 1 _ rfl)⟩
    obtain ⟨r0, r1⟩ := hdo (.cells #[.int .i64 f0, .int .i64 f1, .slice (some ⟨b, off, none⟩) n2 c2, .int .i64 f3, .int .i64 f4_0, .int .i64 f4_1, .slice A5 n5 c5, .slice A6 n6 c6, .int .i64 f7, .int .i64 f8, .int .i64 f9, .int .i64 f10] 30)
    have hd : Hid (decide (0 ≤ (k : Int) ∧ (k : Int) ≤ (n2 : Int) - 1) = true) := Lib.hid (decide_eq_true h)
    have HE := Lib.hid (slotV_at hzi)
    have hk0 : (0 : Int) ≤ k := by omega
    have hk1 : (k : Int) < n2 := by omega
    clear hcell hzi hlie hlen h hdo hc ht
    go_enter Try.func17, Try.ntmps17
    go_wp2_with ((with_reducible refine (implInB _ _ _ _).mono ?_); rintro e w1 ⟨rfl, rfl⟩; rw [hd.out])
    refine bodyPost_ret (v := .agg #[.int .i64 a0, .int .i64 a1]) (by simp [results, Try.results17, go_sem]) rfl ?_
    rw [HE.out]
    exact ⟨rfl, by go_grown⟩
  · have hd : Hid (decide (0 ≤ i ∧ i ≤ (n2 : Int) - 1) = false) := Lib.hid (decide_eq_false h)
    have HE := Lib.hid (slotV_no hc h)
    clear h hc ht
    go_enter Try.func17, Try.ntmps17
    go_wp2_with ((with_reducible refine (implInB _ _ _ _).mono ?_); rintro e w1 ⟨rfl, rfl⟩; rw [hd.out])
    refine (implIntV 0 _).mono ?_
    rintro e w2 ⟨rfl, hb⟩
    have ZN := Box.new (w.alloc (.cells #[.int .i64 f0, .int .i64 f1, .slice A2 n2 c2, .int .i64 f3, .int .i64 f4_0, .int .i64 f4_1, .slice A5 n5 c5, .slice A6 n6 c6, .int .i64 f7, .int .i64 f8, .int .i64 f9, .int .i64 f10] 30)) #[.int .i64 0, .int .i64 0] 26
    rw [World.size_alloc] at ZN
    have ZB := Lib.hid (ZN.below hb)
    have z0 := ZB.out.2 0 (.int .i64 0) rfl
    have z1 := ZB.out.2 1 (.int .i64 0) rfl
    have fz0 : w2.frozen? ⟨w.heap.size + 1, 0, none⟩ = false := (hb.frozen (p := ⟨w.heap.size + 1, 0, none⟩) (by simp; try omega)).trans (by simp [go_sem])
    have fz1 : w2.frozen? ⟨w.heap.size + 1, 1, none⟩ = false := (hb.frozen (p := ⟨w.heap.size + 1, 1, none⟩) (by simp; try omega)).trans (by simp [go_sem])
    have HB2 : Hid (Below w.heap.size w w2) := Lib.hid ((show Below w.heap.size w _ by go_grown).trans (hb.mono (by simp; try omega)))
    clear hb ZN
    go_wp2_with fail
    refine bodyPost_ret (v := .agg #[.int .i64 0, .int .i64 0]) (results_box rfl _ _ (w.heap.size + 1) [.int .i64 0, .int .i64 0] _ rfl ((ZB.out.put 0 _).put 1 _) Try.underlying26 rfl (by kernel_rfl)) rfl ?_
    rw [HE.out]
    exact ⟨rfl, (HB2.out.setCell (by show w.heap.size ≤ w.heap.size + 1; omega) _).setCell (by show w.heap.size ≤ w.heap.size + 1; omega) _⟩
end Go.Proofs.Ytfgijebgnkikpaa
