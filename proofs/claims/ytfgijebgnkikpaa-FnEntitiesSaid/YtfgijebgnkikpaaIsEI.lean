/- The program's IsEntity. -/
import Derived.Test.YtfgijebgnkikpaaIsEntI
import Derived.Test.YtfgijebgnkikpaaShape
import Derived.Test.YtfgijebgnkikpaaEqE9
import Derived.Test.YtfgijebgnkikpaaLawE0
import Derived.Deep.RegionHeld3
import Derived.Deep.RegionLaw
import Derived.LoopTactic
import Derived.Lib.Hide
import Derived.Deep.QuietTactic
import Derived.BigQuiet
import Derived.Deep.RegionWith
import Derived.Handy
namespace Go.Proofs.Ytfgijebgnkikpaa
open Go.RowKit
set_option linter.unusedVariables false
set_option linter.unusedSimpArgs false
/-- What an entity is, as the document says. -/
def restObj (f3 a b : Int) (n5 n6 : Nat) (f7 f8 f9 : Int) : Bool := decide (f3 = 0 ∧ (a = 0 ∧ b = 0) ∧ n5 = 0 ∧ n6 = 0 ∧ f7 = 0 ∧ f8 = 0 ∧ f9 = 0)
def restProm (f1 : Int) (n2 : Nat) : Bool := decide (f1 = 0 ∧ n2 = 0)
def restProx (f1 : Int) (n2 : Nat) (f3 a b : Int) (n5 n6 : Nat) : Bool := decide (f1 = 0 ∧ n2 = 0 ∧ f3 = 0 ∧ (a = 0 ∧ b = 0) ∧ n5 = 0 ∧ n6 = 0)
def sentB (f10 : Int) : Bool := decide (0 ≤ f10 ∧ f10 ≤ 999999)
def entB (f0 f1 : Int) (vl : List V) (n2 : Nat) (f3 a b : Int) (n5 n6 : Nat) (f7 f8 f9 f10 e : Int) : Bool :=
  if f0 = 1 then sentB f10 && objV f1 vl n2 e && restObj f3 a b n5 n6 f7 f8 f9
  else if f0 = 2 then sentB f10 && promV f3 ⟨a, b⟩ f7 f8 f9 n5 n6 e && restProm f1 n2
  else if f0 = 3 then sentB f10 && somew f7 f8 f9 1 && restProx f1 n2 f3 a b n5 n6
  else false
theorem nil_lies9 (w : World) : Lies w (.l []) [.slice none 0 0] := by rw [Lies]; exact ⟨none, 0, 0, rfl, rfl, Or.inl rfl⟩
theorem size77 : (Try.prog.types[77]?).map (·.size) = some 2 := by kernel_rfl
theorem take77 (h : 77 < Try.prog.types.size) (a b : Value) (l : List Value) : (List.take (Try.prog.types[77]'h).size (a :: b :: l)).toArray = #[a, b] := by
  have e := size77
  rw [Array.getElem?_eq_getElem h] at e
  have e2 : (Try.prog.types[77]'h).size = 2 := Option.some.inj e
  rw [e2]
  rfl
theorem len0 {L : List Dat} {n : Nat} (h : L.length = n) : ([] = L) ↔ n = 0 := by
  subst h
  constructor
  · intro e; rw [← e]; rfl
  · intro e; exact (List.eq_nil_of_length_eq_zero e).symm
set_option maxRecDepth 100000 in
set_option maxHeartbeats 8000000 in
theorem isEnt0 (f0 : Int) (f1 : Int) (L2 : List Dat) (A2 : Option Addr) (n2 c2 : Nat) (f3 : Int) (f4_0 : Int) (f4_1 : Int) (L5 : List Dat) (A5 : Option Addr) (n5 c5 : Nat) (L6 : List Dat) (A6 : Option Addr) (n6 c6 : Nat) (f7 : Int) (f8 : Int) (f9 : Int) (f10 : Int) (e : Int) (w : World) (hl2 : Lies w (.l L2) [.slice A2 n2 c2]) (ht2 : ∀ x ∈ L2, Has tyValue x) (hm2 : n2 ≤ 9223372036854775807) (hl5 : Lies w (.l L5) [.slice A5 n5 c5]) (ht5 : ∀ x ∈ L5, Has tySent x) (hm5 : n5 ≤ 9223372036854775807) (hl6 : Lies w (.l L6) [.slice A6 n6 c6]) (ht6 : ∀ x ∈ L6, Has tyAsker x) (hm6 : n6 ≤ 9223372036854775807) (hq5 : (Dat.l L5).bulk ≤ 1099511627776) (hn2 : n2 ≤ 1099511627776) (hn5 : n5 ≤ 1099511627776) (hn6 : n6 ≤ 1099511627776) (h1 : ¬ f0 = 1) (h2 : ¬ f0 = 2) (h3 : ¬ f0 = 3) : Calls Try.prog 18 #[.agg #[.int .i64 f0, .int .i64 f1, .slice A2 n2 c2, .int .i64 f3, .int .i64 f4_0, .int .i64 f4_1, .slice A5 n5 c5, .slice A6 n6 c6, .int .i64 f7, .int .i64 f8, .int .i64 f9, .int .i64 f10], .int .i64 e] w (GivesBool (entB f0 f1 (vs L2) n2 f3 f4_0 f4_1 n5 n6 f7 f8 f9 f10 e) w) := by
  have hc2 := Lib.hid hl2.count
  have hc5 := Lib.hid hl5.count
  have hc6 := Lib.hid hl6.count
  have X := Lib.hid (((((St.start w).lie hl2).lie hl5).lie hl6).push #[.int .i64 f0, .int .i64 f1, .slice A2 n2 c2, .int .i64 f3, .int .i64 f4_0, .int .i64 f4_1, .slice A5 n5 c5, .slice A6 n6 c6, .int .i64 f7, .int .i64 f8, .int .i64 f9, .int .i64 f10] 30)
  clear hl2 hl5 hl6
  have HN : Hid (false = entB f0 f1 (vs L2) n2 f3 f4_0 f4_1 n5 n6 f7 f8 f9 f10 e) := Lib.hid (by simp only [entB, if_neg h1, if_neg h2, if_neg h3])
  go_enter Try.func18, Try.ntmps18
  go_wp2_with fail
  refine (shapeNone f0 f1 L2 A2 n2 c2 f3 f4_0 f4_1 L5 A5 n5 c5 L6 A6 n6 c6 f7 f8 f9 f10 _ h1 h2 h3).mono ?_
  rintro e w1 ⟨rfl, hb⟩
  replace X := Lib.hid (X.out.below hb)
  clear hb
  obtain ⟨x0, x1, x2, x3, x4, x5, x6, x7, x8, x9, x10, x11⟩ := (X.out.c12 (b := w.heap.size) (v0 := .int .i64 f0) (v1 := .int .i64 f1) (v2 := .slice A2 n2 c2) (v3 := .int .i64 f3) (v4 := .int .i64 f4_0) (v5 := .int .i64 f4_1) (v6 := .slice A5 n5 c5) (v7 := .slice A6 n6 c6) (v8 := .int .i64 f7) (v9 := .int .i64 f8) (v10 := .int .i64 f9) (v11 := .int .i64 f10) (by repeat (first | exact List.mem_cons_self | refine List.mem_cons_of_mem _ ?_)))
  go_wp2_with fail
  replace X := Lib.hid X.out.drew
  first
  | (go_region_law (first | fail))
  | fail
  all_goals (
    go_wp2_with fail
    go_ret
    exact GivesBool.of HN.out X.out.low)
set_option maxRecDepth 100000 in
set_option maxHeartbeats 8000000 in
theorem isEnt1 (f1 : Int) (L2 : List Dat) (A2 : Option Addr) (n2 c2 : Nat) (f3 : Int) (f4_0 : Int) (f4_1 : Int) (L5 : List Dat) (A5 : Option Addr) (n5 c5 : Nat) (L6 : List Dat) (A6 : Option Addr) (n6 c6 : Nat) (f7 : Int) (f8 : Int) (f9 : Int) (f10 : Int) (e : Int) (w : World) (hl2 : Lies w (.l L2) [.slice A2 n2 c2]) (ht2 : ∀ x ∈ L2, Has tyValue x) (hm2 : n2 ≤ 9223372036854775807) (hl5 : Lies w (.l L5) [.slice A5 n5 c5]) (ht5 : ∀ x ∈ L5, Has tySent x) (hm5 : n5 ≤ 9223372036854775807) (hl6 : Lies w (.l L6) [.slice A6 n6 c6]) (ht6 : ∀ x ∈ L6, Has tyAsker x) (hm6 : n6 ≤ 9223372036854775807) (hq5 : (Dat.l L5).bulk ≤ 1099511627776) (hn2 : n2 ≤ 1099511627776) (hn5 : n5 ≤ 1099511627776) (hn6 : n6 ≤ 1099511627776) : Calls Try.prog 18 #[.agg #[.int .i64 1, .int .i64 f1, .slice A2 n2 c2, .int .i64 f3, .int .i64 f4_0, .int .i64 f4_1, .slice A5 n5 c5, .slice A6 n6 c6, .int .i64 f7, .int .i64 f8, .int .i64 f9, .int .i64 f10], .int .i64 e] w (GivesBool (entB 1 f1 (vs L2) n2 f3 f4_0 f4_1 n5 n6 f7 f8 f9 f10 e) w) := by
  have hc2 := Lib.hid hl2.count
  have hc5 := Lib.hid hl5.count
  have hc6 := Lib.hid hl6.count
  have X := Lib.hid (((((St.start w).lie hl2).lie hl5).lie hl6).push #[.int .i64 1, .int .i64 f1, .slice A2 n2 c2, .int .i64 f3, .int .i64 f4_0, .int .i64 f4_1, .slice A5 n5 c5, .slice A6 n6 c6, .int .i64 f7, .int .i64 f8, .int .i64 f9, .int .i64 f10] 30)
  clear hl2 hl5 hl6
  rcases hs : sentB f10 with _ | _
  · have HS : Hid (decide (0 ≤ f10 ∧ f10 ≤ 999999) = false) := Lib.hid hs
    have HN : Hid (false = entB 1 f1 (vs L2) n2 f3 f4_0 f4_1 n5 n6 f7 f8 f9 f10 e) := Lib.hid (by simp only [entB]; simp only [Int.reduceEq, if_true, if_false]; simp only [hs, Bool.false_and])
    clear hs
    go_enter Try.func18, Try.ntmps18
    go_wp2_with fail
    refine (shapeObj f1 L2 A2 n2 c2 f3 f4_0 f4_1 L5 A5 n5 c5 L6 A6 n6 c6 f7 f8 f9 f10 _).mono ?_
    rintro e w1 ⟨rfl, hb⟩
    replace X := Lib.hid (X.out.below hb)
    clear hb
    obtain ⟨x0, x1, x2, x3, x4, x5, x6, x7, x8, x9, x10, x11⟩ := (X.out.c12 (b := w.heap.size) (v0 := .int .i64 1) (v1 := .int .i64 f1) (v2 := .slice A2 n2 c2) (v3 := .int .i64 f3) (v4 := .int .i64 f4_0) (v5 := .int .i64 f4_1) (v6 := .slice A5 n5 c5) (v7 := .slice A6 n6 c6) (v8 := .int .i64 f7) (v9 := .int .i64 f8) (v10 := .int .i64 f9) (v11 := .int .i64 f10) (by repeat (first | exact List.mem_cons_self | refine List.mem_cons_of_mem _ ?_)))
    go_wp2_with fail
    replace X := Lib.hid X.out.drew
    first
    | (go_region_law (first
        | (go_simp; (try go_upon); go_at_call 113; rw [take77]; (with_reducible refine (hasSent 1 f10 _ _ HS.out).mono ?_); rintro e u1 ⟨rfl, hb5⟩; replace X := Lib.hid (X.out.below hb5); clear hb5)))
    | fail
    all_goals (
      go_wp2_with fail
      go_ret
      exact GivesBool.of HN.out X.out.low)
  · have HS : Hid (decide (0 ≤ f10 ∧ f10 ≤ 999999) = true) := Lib.hid hs
    rcases hv : objV f1 (vs L2) n2 e with _ | _
    · have HV := Lib.hid hv
      have HN : Hid (false = entB 1 f1 (vs L2) n2 f3 f4_0 f4_1 n5 n6 f7 f8 f9 f10 e) := Lib.hid (by simp only [entB]; simp only [Int.reduceEq, if_true, if_false]; simp only [hs, hv, Bool.false_and, Bool.true_and])
      clear hs hv
      go_enter Try.func18, Try.ntmps18
      go_wp2_with fail
      refine (shapeObj f1 L2 A2 n2 c2 f3 f4_0 f4_1 L5 A5 n5 c5 L6 A6 n6 c6 f7 f8 f9 f10 _).mono ?_
      rintro e w1 ⟨rfl, hb⟩
      replace X := Lib.hid (X.out.below hb)
      clear hb
      obtain ⟨x0, x1, x2, x3, x4, x5, x6, x7, x8, x9, x10, x11⟩ := (X.out.c12 (b := w.heap.size) (v0 := .int .i64 1) (v1 := .int .i64 f1) (v2 := .slice A2 n2 c2) (v3 := .int .i64 f3) (v4 := .int .i64 f4_0) (v5 := .int .i64 f4_1) (v6 := .slice A5 n5 c5) (v7 := .slice A6 n6 c6) (v8 := .int .i64 f7) (v9 := .int .i64 f8) (v10 := .int .i64 f9) (v11 := .int .i64 f10) (by repeat (first | exact List.mem_cons_self | refine List.mem_cons_of_mem _ ?_)))
      go_wp2_with fail
      replace X := Lib.hid X.out.drew
      first
      | (go_region_law (first
          | (go_simp; (try go_upon); go_at_call 113; rw [take77]; (with_reducible refine (hasSent 1 f10 _ _ HS.out).mono ?_); rintro e u1 ⟨rfl, hb5⟩; replace X := Lib.hid (X.out.below hb5); clear hb5)
          | (go_simp; (try go_upon); go_at_call 114; (with_reducible refine (objValid 1 f10 f1 e L2 A2 n2 c2 _ (X.out.lies (d := .l L2) (cs := [.slice A2 n2 c2]) (by repeat (first | exact List.mem_cons_self | refine List.mem_cons_of_mem _ ?_))) ht2 hn2).mono ?_); rintro e u2 ⟨rfl, hb5⟩; rw [HV.out]; replace X := Lib.hid (X.out.below hb5); clear hb5)))
      | fail
      all_goals (
        go_wp2_with fail
        go_ret
        exact GivesBool.of HN.out X.out.low)
    · have HV := Lib.hid hv
      obtain ⟨r, hr⟩ : ∃ r, restObj f3 f4_0 f4_1 n5 n6 f7 f8 f9 = r := ⟨_, rfl⟩
      have HN : Hid (r = entB 1 f1 (vs L2) n2 f3 f4_0 f4_1 n5 n6 f7 f8 f9 f10 e) := Lib.hid (by simp only [entB]; simp only [Int.reduceEq, if_true, if_false]; simp only [hs, hv, hr, Bool.true_and])
      have HR : Hid (eq1 (.r [.i 1, .i f1, .l L2, .i 0, .r [.i 0, .i 0], .l [], .l [], .i 0, .i 0, .i 0, .i f10]) (.r [.i 1, .i f1, .l L2, .i f3, .r [.i f4_0, .i f4_1], .l L5, .l L6, .i f7, .i f8, .i f9, .i f10]) = r) := Lib.hid (by
        rw [← hr, Bool.eq_iff_iff, eq1_iff]
        simp only [restObj, decide_eq_true_eq, Dat.r.injEq, List.cons.injEq, Dat.i.injEq, Dat.l.injEq, and_true, true_and, len0 hc2.out, len0 hc5.out, len0 hc6.out, eq_comm (a := (0 : Int))])
      clear hs hv hr
      go_enter Try.func18, Try.ntmps18
      go_wp2_with fail
      refine (shapeObj f1 L2 A2 n2 c2 f3 f4_0 f4_1 L5 A5 n5 c5 L6 A6 n6 c6 f7 f8 f9 f10 _).mono ?_
      rintro e w1 ⟨rfl, hb⟩
      replace X := Lib.hid (X.out.below hb)
      clear hb
      obtain ⟨x0, x1, x2, x3, x4, x5, x6, x7, x8, x9, x10, x11⟩ := (X.out.c12 (b := w.heap.size) (v0 := .int .i64 1) (v1 := .int .i64 f1) (v2 := .slice A2 n2 c2) (v3 := .int .i64 f3) (v4 := .int .i64 f4_0) (v5 := .int .i64 f4_1) (v6 := .slice A5 n5 c5) (v7 := .slice A6 n6 c6) (v8 := .int .i64 f7) (v9 := .int .i64 f8) (v10 := .int .i64 f9) (v11 := .int .i64 f10) (by repeat (first | exact List.mem_cons_self | refine List.mem_cons_of_mem _ ?_)))
      go_wp2_with fail
      replace X := Lib.hid X.out.drew
      go_region_held3 (fun w' => w'.cell? ⟨w.heap.size, 0, none⟩ = some (.int .i64 1) ∧ w'.cell? ⟨w.heap.size, 1, none⟩ = some (.int .i64 f1) ∧ w'.cell? ⟨w.heap.size, 2, none⟩ = some (.slice A2 n2 c2) ∧ w'.cell? ⟨w.heap.size, 3, none⟩ = some (.int .i64 f3) ∧ w'.cell? ⟨w.heap.size, 4, none⟩ = some (.int .i64 f4_0) ∧ w'.cell? ⟨w.heap.size, 5, none⟩ = some (.int .i64 f4_1) ∧ w'.cell? ⟨w.heap.size, 6, none⟩ = some (.slice A5 n5 c5) ∧ w'.cell? ⟨w.heap.size, 7, none⟩ = some (.slice A6 n6 c6) ∧ w'.cell? ⟨w.heap.size, 8, none⟩ = some (.int .i64 f7) ∧ w'.cell? ⟨w.heap.size, 9, none⟩ = some (.int .i64 f8) ∧ w'.cell? ⟨w.heap.size, 10, none⟩ = some (.int .i64 f9) ∧ w'.cell? ⟨w.heap.size, 11, none⟩ = some (.int .i64 f10))
        (first | with_reducible exact (X.out.c12 (b := w.heap.size) (v0 := .int .i64 1) (v1 := .int .i64 f1) (v2 := .slice A2 n2 c2) (v3 := .int .i64 f3) (v4 := .int .i64 f4_0) (v5 := .int .i64 f4_1) (v6 := .slice A5 n5 c5) (v7 := .slice A6 n6 c6) (v8 := .int .i64 f7) (v9 := .int .i64 f8) (v10 := .int .i64 f9) (v11 := .int .i64 f10) (by repeat (first | exact List.mem_cons_self | refine List.mem_cons_of_mem _ ?_))) | go_keep)
        (first
        | (go_at_call 113; rw [take77]; (with_reducible refine (hasSent 1 f10 _ _ HS.out).mono ?_); rintro e u1 ⟨rfl, hb5⟩; replace X := Lib.hid (X.out.below hb5); clear hb5)
        | (go_at_call 114; (with_reducible refine (objValid 1 f10 f1 e L2 A2 n2 c2 _ (X.out.lies (d := .l L2) (cs := [.slice A2 n2 c2]) (by repeat (first | exact List.mem_cons_self | refine List.mem_cons_of_mem _ ?_))) ht2 hn2).mono ?_); rintro e u2 ⟨rfl, hb5⟩; rw [HV.out]; replace X := Lib.hid (X.out.below hb5); clear hb5)
        | (go_at_call 52; (with_reducible refine (objEnt _ 1 f10 f1 A2 n2 c2).mono ?_); rintro e u3 ⟨rfl, hb5⟩; replace X := Lib.hid (X.out.below hb5); clear hb5)
        | (go_at_call 20; (with_reducible refine (implEqEnt 1 f1 L2 A2 n2 c2 0 0 0 [] none 0 0 [] none 0 0 0 0 0 f10 1 f1 L2 A2 n2 c2 f3 f4_0 f4_1 L5 A5 n5 c5 L6 A6 n6 c6 f7 f8 f9 f10 _ (X.out.lies (d := .l L2) (cs := [.slice A2 n2 c2]) (by repeat (first | exact List.mem_cons_self | refine List.mem_cons_of_mem _ ?_))) (X.out.lies (d := .l L2) (cs := [.slice A2 n2 c2]) (by repeat (first | exact List.mem_cons_self | refine List.mem_cons_of_mem _ ?_))) ht2 ht2 hn2 (nil_lies9 _) (X.out.lies (d := .l L5) (cs := [.slice A5 n5 c5]) (by repeat (first | exact List.mem_cons_self | refine List.mem_cons_of_mem _ ?_))) (fun x h => absurd h List.not_mem_nil) ht5 (by simp [Dat.bulk, bulkAll]) hm5 (nil_lies9 _) (X.out.lies (d := .l L6) (cs := [.slice A6 n6 c6]) (by repeat (first | exact List.mem_cons_self | refine List.mem_cons_of_mem _ ?_))) (fun x h => absurd h List.not_mem_nil) ht6 (by omega)).mono ?_); rintro e u4 ⟨rfl, hb5⟩; rw [HR.out]; replace X := Lib.hid (X.out.below hb5); clear hb5))
      all_goals (
        go_wp2_with fail
        go_ret
        exact GivesBool.of HN.out X.out.low)
set_option maxRecDepth 100000 in
set_option maxHeartbeats 8000000 in
theorem isEnt2 (f1 : Int) (L2 : List Dat) (A2 : Option Addr) (n2 c2 : Nat) (f3 : Int) (f4_0 : Int) (f4_1 : Int) (L5 : List Dat) (A5 : Option Addr) (n5 c5 : Nat) (L6 : List Dat) (A6 : Option Addr) (n6 c6 : Nat) (f7 : Int) (f8 : Int) (f9 : Int) (f10 : Int) (e : Int) (w : World) (hl2 : Lies w (.l L2) [.slice A2 n2 c2]) (ht2 : ∀ x ∈ L2, Has tyValue x) (hm2 : n2 ≤ 9223372036854775807) (hl5 : Lies w (.l L5) [.slice A5 n5 c5]) (ht5 : ∀ x ∈ L5, Has tySent x) (hm5 : n5 ≤ 9223372036854775807) (hl6 : Lies w (.l L6) [.slice A6 n6 c6]) (ht6 : ∀ x ∈ L6, Has tyAsker x) (hm6 : n6 ≤ 9223372036854775807) (hq5 : (Dat.l L5).bulk ≤ 1099511627776) (hn2 : n2 ≤ 1099511627776) (hn5 : n5 ≤ 1099511627776) (hn6 : n6 ≤ 1099511627776) : Calls Try.prog 18 #[.agg #[.int .i64 2, .int .i64 f1, .slice A2 n2 c2, .int .i64 f3, .int .i64 f4_0, .int .i64 f4_1, .slice A5 n5 c5, .slice A6 n6 c6, .int .i64 f7, .int .i64 f8, .int .i64 f9, .int .i64 f10], .int .i64 e] w (GivesBool (entB 2 f1 (vs L2) n2 f3 f4_0 f4_1 n5 n6 f7 f8 f9 f10 e) w) := by
  have hc2 := Lib.hid hl2.count
  have hc5 := Lib.hid hl5.count
  have hc6 := Lib.hid hl6.count
  have X := Lib.hid (((((St.start w).lie hl2).lie hl5).lie hl6).push #[.int .i64 2, .int .i64 f1, .slice A2 n2 c2, .int .i64 f3, .int .i64 f4_0, .int .i64 f4_1, .slice A5 n5 c5, .slice A6 n6 c6, .int .i64 f7, .int .i64 f8, .int .i64 f9, .int .i64 f10] 30)
  clear hl2 hl5 hl6
  rcases hs : sentB f10 with _ | _
  · have HS : Hid (decide (0 ≤ f10 ∧ f10 ≤ 999999) = false) := Lib.hid hs
    have HN : Hid (false = entB 2 f1 (vs L2) n2 f3 f4_0 f4_1 n5 n6 f7 f8 f9 f10 e) := Lib.hid (by simp only [entB]; simp only [Int.reduceEq, if_true, if_false]; simp only [hs, Bool.false_and])
    clear hs
    go_enter Try.func18, Try.ntmps18
    go_wp2_with fail
    refine (shapeProm f1 L2 A2 n2 c2 f3 f4_0 f4_1 L5 A5 n5 c5 L6 A6 n6 c6 f7 f8 f9 f10 _).mono ?_
    rintro e w1 ⟨rfl, hb⟩
    replace X := Lib.hid (X.out.below hb)
    clear hb
    obtain ⟨x0, x1, x2, x3, x4, x5, x6, x7, x8, x9, x10, x11⟩ := (X.out.c12 (b := w.heap.size) (v0 := .int .i64 2) (v1 := .int .i64 f1) (v2 := .slice A2 n2 c2) (v3 := .int .i64 f3) (v4 := .int .i64 f4_0) (v5 := .int .i64 f4_1) (v6 := .slice A5 n5 c5) (v7 := .slice A6 n6 c6) (v8 := .int .i64 f7) (v9 := .int .i64 f8) (v10 := .int .i64 f9) (v11 := .int .i64 f10) (by repeat (first | exact List.mem_cons_self | refine List.mem_cons_of_mem _ ?_)))
    go_wp2_with fail
    replace X := Lib.hid X.out.drew
    first
    | (go_region_law (first
        | (go_simp; (try go_upon); go_at_call 113; rw [take77]; (with_reducible refine (hasSent 2 f10 _ _ HS.out).mono ?_); rintro e u1 ⟨rfl, hb5⟩; replace X := Lib.hid (X.out.below hb5); clear hb5)))
    | fail
    all_goals (
      go_wp2_with fail
      go_ret
      exact GivesBool.of HN.out X.out.low)
  · have HS : Hid (decide (0 ≤ f10 ∧ f10 ≤ 999999) = true) := Lib.hid hs
    rcases hv : promV f3 ⟨f4_0, f4_1⟩ f7 f8 f9 n5 n6 e with _ | _
    · have HV := Lib.hid hv
      have HN : Hid (false = entB 2 f1 (vs L2) n2 f3 f4_0 f4_1 n5 n6 f7 f8 f9 f10 e) := Lib.hid (by simp only [entB]; simp only [Int.reduceEq, if_true, if_false]; simp only [hs, hv, Bool.false_and, Bool.true_and])
      clear hs hv
      go_enter Try.func18, Try.ntmps18
      go_wp2_with fail
      refine (shapeProm f1 L2 A2 n2 c2 f3 f4_0 f4_1 L5 A5 n5 c5 L6 A6 n6 c6 f7 f8 f9 f10 _).mono ?_
      rintro e w1 ⟨rfl, hb⟩
      replace X := Lib.hid (X.out.below hb)
      clear hb
      obtain ⟨x0, x1, x2, x3, x4, x5, x6, x7, x8, x9, x10, x11⟩ := (X.out.c12 (b := w.heap.size) (v0 := .int .i64 2) (v1 := .int .i64 f1) (v2 := .slice A2 n2 c2) (v3 := .int .i64 f3) (v4 := .int .i64 f4_0) (v5 := .int .i64 f4_1) (v6 := .slice A5 n5 c5) (v7 := .slice A6 n6 c6) (v8 := .int .i64 f7) (v9 := .int .i64 f8) (v10 := .int .i64 f9) (v11 := .int .i64 f10) (by repeat (first | exact List.mem_cons_self | refine List.mem_cons_of_mem _ ?_)))
      go_wp2_with fail
      replace X := Lib.hid X.out.drew
      first
      | (go_region_law (first
          | (go_simp; (try go_upon); go_at_call 113; rw [take77]; (with_reducible refine (hasSent 2 f10 _ _ HS.out).mono ?_); rintro e u1 ⟨rfl, hb5⟩; replace X := Lib.hid (X.out.below hb5); clear hb5)
          | (go_simp; (try go_upon); go_at_call 123; (with_reducible refine (promValid 2 f10 f7 f8 f9 f3 f4_0 f4_1 A5 A6 n5 c5 n6 c6 e _ hn5 hn6).mono ?_); rintro e u2 ⟨rfl, hb5⟩; rw [HV.out]; replace X := Lib.hid (X.out.below hb5); clear hb5)))
      | fail
      all_goals (
        go_wp2_with fail
        go_ret
        exact GivesBool.of HN.out X.out.low)
    · have HV := Lib.hid hv
      obtain ⟨r, hr⟩ : ∃ r, restProm f1 n2 = r := ⟨_, rfl⟩
      have HN : Hid (r = entB 2 f1 (vs L2) n2 f3 f4_0 f4_1 n5 n6 f7 f8 f9 f10 e) := Lib.hid (by simp only [entB]; simp only [Int.reduceEq, if_true, if_false]; simp only [hs, hv, hr, Bool.true_and])
      have HR : Hid (eq1 (.r [.i 2, .i 0, .l [], .i f3, .r [.i f4_0, .i f4_1], .l L5, .l L6, .i f7, .i f8, .i f9, .i f10]) (.r [.i 2, .i f1, .l L2, .i f3, .r [.i f4_0, .i f4_1], .l L5, .l L6, .i f7, .i f8, .i f9, .i f10]) = r) := Lib.hid (by
        rw [← hr, Bool.eq_iff_iff, eq1_iff]
        simp only [restProm, decide_eq_true_eq, Dat.r.injEq, List.cons.injEq, Dat.i.injEq, Dat.l.injEq, and_true, true_and, len0 hc2.out, len0 hc5.out, len0 hc6.out, eq_comm (a := (0 : Int))])
      clear hs hv hr
      go_enter Try.func18, Try.ntmps18
      go_wp2_with fail
      refine (shapeProm f1 L2 A2 n2 c2 f3 f4_0 f4_1 L5 A5 n5 c5 L6 A6 n6 c6 f7 f8 f9 f10 _).mono ?_
      rintro e w1 ⟨rfl, hb⟩
      replace X := Lib.hid (X.out.below hb)
      clear hb
      obtain ⟨x0, x1, x2, x3, x4, x5, x6, x7, x8, x9, x10, x11⟩ := (X.out.c12 (b := w.heap.size) (v0 := .int .i64 2) (v1 := .int .i64 f1) (v2 := .slice A2 n2 c2) (v3 := .int .i64 f3) (v4 := .int .i64 f4_0) (v5 := .int .i64 f4_1) (v6 := .slice A5 n5 c5) (v7 := .slice A6 n6 c6) (v8 := .int .i64 f7) (v9 := .int .i64 f8) (v10 := .int .i64 f9) (v11 := .int .i64 f10) (by repeat (first | exact List.mem_cons_self | refine List.mem_cons_of_mem _ ?_)))
      go_wp2_with fail
      replace X := Lib.hid X.out.drew
      go_region_held3 (fun w' => w'.cell? ⟨w.heap.size, 0, none⟩ = some (.int .i64 2) ∧ w'.cell? ⟨w.heap.size, 1, none⟩ = some (.int .i64 f1) ∧ w'.cell? ⟨w.heap.size, 2, none⟩ = some (.slice A2 n2 c2) ∧ w'.cell? ⟨w.heap.size, 3, none⟩ = some (.int .i64 f3) ∧ w'.cell? ⟨w.heap.size, 4, none⟩ = some (.int .i64 f4_0) ∧ w'.cell? ⟨w.heap.size, 5, none⟩ = some (.int .i64 f4_1) ∧ w'.cell? ⟨w.heap.size, 6, none⟩ = some (.slice A5 n5 c5) ∧ w'.cell? ⟨w.heap.size, 7, none⟩ = some (.slice A6 n6 c6) ∧ w'.cell? ⟨w.heap.size, 8, none⟩ = some (.int .i64 f7) ∧ w'.cell? ⟨w.heap.size, 9, none⟩ = some (.int .i64 f8) ∧ w'.cell? ⟨w.heap.size, 10, none⟩ = some (.int .i64 f9) ∧ w'.cell? ⟨w.heap.size, 11, none⟩ = some (.int .i64 f10))
        (first | with_reducible exact (X.out.c12 (b := w.heap.size) (v0 := .int .i64 2) (v1 := .int .i64 f1) (v2 := .slice A2 n2 c2) (v3 := .int .i64 f3) (v4 := .int .i64 f4_0) (v5 := .int .i64 f4_1) (v6 := .slice A5 n5 c5) (v7 := .slice A6 n6 c6) (v8 := .int .i64 f7) (v9 := .int .i64 f8) (v10 := .int .i64 f9) (v11 := .int .i64 f10) (by repeat (first | exact List.mem_cons_self | refine List.mem_cons_of_mem _ ?_))) | go_keep)
        (first
        | (go_at_call 113; rw [take77]; (with_reducible refine (hasSent 2 f10 _ _ HS.out).mono ?_); rintro e u1 ⟨rfl, hb5⟩; replace X := Lib.hid (X.out.below hb5); clear hb5)
        | (go_at_call 123; (with_reducible refine (promValid 2 f10 f7 f8 f9 f3 f4_0 f4_1 A5 A6 n5 c5 n6 c6 e _ hn5 hn6).mono ?_); rintro e u2 ⟨rfl, hb5⟩; rw [HV.out]; replace X := Lib.hid (X.out.below hb5); clear hb5)
        | (go_at_call 62; (with_reducible refine (promEnt _ 2 f10 f7 f8 f9 f3 f4_0 f4_1 A5 A6 n5 c5 n6 c6).mono ?_); rintro e u3 ⟨rfl, hb5⟩; replace X := Lib.hid (X.out.below hb5); clear hb5)
        | (go_at_call 20; (with_reducible refine (implEqEnt 2 0 [] none 0 0 f3 f4_0 f4_1 L5 A5 n5 c5 L6 A6 n6 c6 f7 f8 f9 f10 2 f1 L2 A2 n2 c2 f3 f4_0 f4_1 L5 A5 n5 c5 L6 A6 n6 c6 f7 f8 f9 f10 _ (nil_lies9 _) (X.out.lies (d := .l L2) (cs := [.slice A2 n2 c2]) (by repeat (first | exact List.mem_cons_self | refine List.mem_cons_of_mem _ ?_))) (fun x h => absurd h List.not_mem_nil) ht2 (by omega) (X.out.lies (d := .l L5) (cs := [.slice A5 n5 c5]) (by repeat (first | exact List.mem_cons_self | refine List.mem_cons_of_mem _ ?_))) (X.out.lies (d := .l L5) (cs := [.slice A5 n5 c5]) (by repeat (first | exact List.mem_cons_self | refine List.mem_cons_of_mem _ ?_))) ht5 ht5 hq5 hm5 (X.out.lies (d := .l L6) (cs := [.slice A6 n6 c6]) (by repeat (first | exact List.mem_cons_self | refine List.mem_cons_of_mem _ ?_))) (X.out.lies (d := .l L6) (cs := [.slice A6 n6 c6]) (by repeat (first | exact List.mem_cons_self | refine List.mem_cons_of_mem _ ?_))) ht6 ht6 hn6).mono ?_); rintro e u4 ⟨rfl, hb5⟩; rw [HR.out]; replace X := Lib.hid (X.out.below hb5); clear hb5))
      all_goals (
        go_wp2_with fail
        go_ret
        exact GivesBool.of HN.out X.out.low)
set_option maxRecDepth 100000 in
set_option maxHeartbeats 8000000 in
theorem isEnt3 (f1 : Int) (L2 : List Dat) (A2 : Option Addr) (n2 c2 : Nat) (f3 : Int) (f4_0 : Int) (f4_1 : Int) (L5 : List Dat) (A5 : Option Addr) (n5 c5 : Nat) (L6 : List Dat) (A6 : Option Addr) (n6 c6 : Nat) (f7 : Int) (f8 : Int) (f9 : Int) (f10 : Int) (e : Int) (w : World) (hl2 : Lies w (.l L2) [.slice A2 n2 c2]) (ht2 : ∀ x ∈ L2, Has tyValue x) (hm2 : n2 ≤ 9223372036854775807) (hl5 : Lies w (.l L5) [.slice A5 n5 c5]) (ht5 : ∀ x ∈ L5, Has tySent x) (hm5 : n5 ≤ 9223372036854775807) (hl6 : Lies w (.l L6) [.slice A6 n6 c6]) (ht6 : ∀ x ∈ L6, Has tyAsker x) (hm6 : n6 ≤ 9223372036854775807) (hq5 : (Dat.l L5).bulk ≤ 1099511627776) (hn2 : n2 ≤ 1099511627776) (hn5 : n5 ≤ 1099511627776) (hn6 : n6 ≤ 1099511627776) : Calls Try.prog 18 #[.agg #[.int .i64 3, .int .i64 f1, .slice A2 n2 c2, .int .i64 f3, .int .i64 f4_0, .int .i64 f4_1, .slice A5 n5 c5, .slice A6 n6 c6, .int .i64 f7, .int .i64 f8, .int .i64 f9, .int .i64 f10], .int .i64 e] w (GivesBool (entB 3 f1 (vs L2) n2 f3 f4_0 f4_1 n5 n6 f7 f8 f9 f10 e) w) := by
  have hc2 := Lib.hid hl2.count
  have hc5 := Lib.hid hl5.count
  have hc6 := Lib.hid hl6.count
  have X := Lib.hid (((((St.start w).lie hl2).lie hl5).lie hl6).push #[.int .i64 3, .int .i64 f1, .slice A2 n2 c2, .int .i64 f3, .int .i64 f4_0, .int .i64 f4_1, .slice A5 n5 c5, .slice A6 n6 c6, .int .i64 f7, .int .i64 f8, .int .i64 f9, .int .i64 f10] 30)
  clear hl2 hl5 hl6
  rcases hs : sentB f10 with _ | _
  · have HS : Hid (decide (0 ≤ f10 ∧ f10 ≤ 999999) = false) := Lib.hid hs
    have HN : Hid (false = entB 3 f1 (vs L2) n2 f3 f4_0 f4_1 n5 n6 f7 f8 f9 f10 e) := Lib.hid (by simp only [entB]; simp only [Int.reduceEq, if_true, if_false]; simp only [hs, Bool.false_and])
    clear hs
    go_enter Try.func18, Try.ntmps18
    go_wp2_with fail
    refine (shapeProx f1 L2 A2 n2 c2 f3 f4_0 f4_1 L5 A5 n5 c5 L6 A6 n6 c6 f7 f8 f9 f10 _).mono ?_
    rintro e w1 ⟨rfl, hb⟩
    replace X := Lib.hid (X.out.below hb)
    clear hb
    obtain ⟨x0, x1, x2, x3, x4, x5, x6, x7, x8, x9, x10, x11⟩ := (X.out.c12 (b := w.heap.size) (v0 := .int .i64 3) (v1 := .int .i64 f1) (v2 := .slice A2 n2 c2) (v3 := .int .i64 f3) (v4 := .int .i64 f4_0) (v5 := .int .i64 f4_1) (v6 := .slice A5 n5 c5) (v7 := .slice A6 n6 c6) (v8 := .int .i64 f7) (v9 := .int .i64 f8) (v10 := .int .i64 f9) (v11 := .int .i64 f10) (by repeat (first | exact List.mem_cons_self | refine List.mem_cons_of_mem _ ?_)))
    go_wp2_with fail
    replace X := Lib.hid X.out.drew
    first
    | (go_region_law (first
        | (go_simp; (try go_upon); go_at_call 113; rw [take77]; (with_reducible refine (hasSent 3 f10 _ _ HS.out).mono ?_); rintro e u1 ⟨rfl, hb5⟩; replace X := Lib.hid (X.out.below hb5); clear hb5)))
    | fail
    all_goals (
      go_wp2_with fail
      go_ret
      exact GivesBool.of HN.out X.out.low)
  · have HS : Hid (decide (0 ≤ f10 ∧ f10 ≤ 999999) = true) := Lib.hid hs
    rcases hv : somew f7 f8 f9 1 with _ | _
    · have HV := Lib.hid hv
      have HN : Hid (false = entB 3 f1 (vs L2) n2 f3 f4_0 f4_1 n5 n6 f7 f8 f9 f10 e) := Lib.hid (by simp only [entB]; simp only [Int.reduceEq, if_true, if_false]; simp only [hs, hv, Bool.false_and, Bool.true_and])
      clear hs hv
      go_enter Try.func18, Try.ntmps18
      go_wp2_with fail
      refine (shapeProx f1 L2 A2 n2 c2 f3 f4_0 f4_1 L5 A5 n5 c5 L6 A6 n6 c6 f7 f8 f9 f10 _).mono ?_
      rintro e w1 ⟨rfl, hb⟩
      replace X := Lib.hid (X.out.below hb)
      clear hb
      obtain ⟨x0, x1, x2, x3, x4, x5, x6, x7, x8, x9, x10, x11⟩ := (X.out.c12 (b := w.heap.size) (v0 := .int .i64 3) (v1 := .int .i64 f1) (v2 := .slice A2 n2 c2) (v3 := .int .i64 f3) (v4 := .int .i64 f4_0) (v5 := .int .i64 f4_1) (v6 := .slice A5 n5 c5) (v7 := .slice A6 n6 c6) (v8 := .int .i64 f7) (v9 := .int .i64 f8) (v10 := .int .i64 f9) (v11 := .int .i64 f10) (by repeat (first | exact List.mem_cons_self | refine List.mem_cons_of_mem _ ?_)))
      go_wp2_with fail
      replace X := Lib.hid X.out.drew
      first
      | (go_region_law (first
          | (go_simp; (try go_upon); go_at_call 113; rw [take77]; (with_reducible refine (hasSent 3 f10 _ _ HS.out).mono ?_); rintro e u1 ⟨rfl, hb5⟩; replace X := Lib.hid (X.out.below hb5); clear hb5)
          | (go_simp; (try go_upon); go_at_call 125; (with_reducible refine (proxValid 3 f10 f7 f8 f9 e _).mono ?_); rintro e u2 ⟨rfl, hb5⟩; rw [HV.out]; replace X := Lib.hid (X.out.below hb5); clear hb5)))
      | fail
      all_goals (
        go_wp2_with fail
        go_ret
        exact GivesBool.of HN.out X.out.low)
    · have HV := Lib.hid hv
      obtain ⟨r, hr⟩ : ∃ r, restProx f1 n2 f3 f4_0 f4_1 n5 n6 = r := ⟨_, rfl⟩
      have HN : Hid (r = entB 3 f1 (vs L2) n2 f3 f4_0 f4_1 n5 n6 f7 f8 f9 f10 e) := Lib.hid (by simp only [entB]; simp only [Int.reduceEq, if_true, if_false]; simp only [hs, hv, hr, Bool.true_and])
      have HR : Hid (eq1 (.r [.i 3, .i 0, .l [], .i 0, .r [.i 0, .i 0], .l [], .l [], .i f7, .i f8, .i f9, .i f10]) (.r [.i 3, .i f1, .l L2, .i f3, .r [.i f4_0, .i f4_1], .l L5, .l L6, .i f7, .i f8, .i f9, .i f10]) = r) := Lib.hid (by
        rw [← hr, Bool.eq_iff_iff, eq1_iff]
        simp only [restProx, decide_eq_true_eq, Dat.r.injEq, List.cons.injEq, Dat.i.injEq, Dat.l.injEq, and_true, true_and, len0 hc2.out, len0 hc5.out, len0 hc6.out, eq_comm (a := (0 : Int))])
      clear hs hv hr
      go_enter Try.func18, Try.ntmps18
      go_wp2_with fail
      refine (shapeProx f1 L2 A2 n2 c2 f3 f4_0 f4_1 L5 A5 n5 c5 L6 A6 n6 c6 f7 f8 f9 f10 _).mono ?_
      rintro e w1 ⟨rfl, hb⟩
      replace X := Lib.hid (X.out.below hb)
      clear hb
      obtain ⟨x0, x1, x2, x3, x4, x5, x6, x7, x8, x9, x10, x11⟩ := (X.out.c12 (b := w.heap.size) (v0 := .int .i64 3) (v1 := .int .i64 f1) (v2 := .slice A2 n2 c2) (v3 := .int .i64 f3) (v4 := .int .i64 f4_0) (v5 := .int .i64 f4_1) (v6 := .slice A5 n5 c5) (v7 := .slice A6 n6 c6) (v8 := .int .i64 f7) (v9 := .int .i64 f8) (v10 := .int .i64 f9) (v11 := .int .i64 f10) (by repeat (first | exact List.mem_cons_self | refine List.mem_cons_of_mem _ ?_)))
      go_wp2_with fail
      replace X := Lib.hid X.out.drew
      go_region_held3 (fun w' => w'.cell? ⟨w.heap.size, 0, none⟩ = some (.int .i64 3) ∧ w'.cell? ⟨w.heap.size, 1, none⟩ = some (.int .i64 f1) ∧ w'.cell? ⟨w.heap.size, 2, none⟩ = some (.slice A2 n2 c2) ∧ w'.cell? ⟨w.heap.size, 3, none⟩ = some (.int .i64 f3) ∧ w'.cell? ⟨w.heap.size, 4, none⟩ = some (.int .i64 f4_0) ∧ w'.cell? ⟨w.heap.size, 5, none⟩ = some (.int .i64 f4_1) ∧ w'.cell? ⟨w.heap.size, 6, none⟩ = some (.slice A5 n5 c5) ∧ w'.cell? ⟨w.heap.size, 7, none⟩ = some (.slice A6 n6 c6) ∧ w'.cell? ⟨w.heap.size, 8, none⟩ = some (.int .i64 f7) ∧ w'.cell? ⟨w.heap.size, 9, none⟩ = some (.int .i64 f8) ∧ w'.cell? ⟨w.heap.size, 10, none⟩ = some (.int .i64 f9) ∧ w'.cell? ⟨w.heap.size, 11, none⟩ = some (.int .i64 f10))
        (first | with_reducible exact (X.out.c12 (b := w.heap.size) (v0 := .int .i64 3) (v1 := .int .i64 f1) (v2 := .slice A2 n2 c2) (v3 := .int .i64 f3) (v4 := .int .i64 f4_0) (v5 := .int .i64 f4_1) (v6 := .slice A5 n5 c5) (v7 := .slice A6 n6 c6) (v8 := .int .i64 f7) (v9 := .int .i64 f8) (v10 := .int .i64 f9) (v11 := .int .i64 f10) (by repeat (first | exact List.mem_cons_self | refine List.mem_cons_of_mem _ ?_))) | go_keep)
        (first
        | (go_at_call 113; rw [take77]; (with_reducible refine (hasSent 3 f10 _ _ HS.out).mono ?_); rintro e u1 ⟨rfl, hb5⟩; replace X := Lib.hid (X.out.below hb5); clear hb5)
        | (go_at_call 125; (with_reducible refine (proxValid 3 f10 f7 f8 f9 e _).mono ?_); rintro e u2 ⟨rfl, hb5⟩; rw [HV.out]; replace X := Lib.hid (X.out.below hb5); clear hb5)
        | (go_at_call 70; (with_reducible refine (proxEnt _ 3 f10 f7 f8 f9).mono ?_); rintro e u3 ⟨rfl, hb5⟩; replace X := Lib.hid (X.out.below hb5); clear hb5)
        | (go_at_call 20; (with_reducible refine (implEqEnt 3 0 [] none 0 0 0 0 0 [] none 0 0 [] none 0 0 f7 f8 f9 f10 3 f1 L2 A2 n2 c2 f3 f4_0 f4_1 L5 A5 n5 c5 L6 A6 n6 c6 f7 f8 f9 f10 _ (nil_lies9 _) (X.out.lies (d := .l L2) (cs := [.slice A2 n2 c2]) (by repeat (first | exact List.mem_cons_self | refine List.mem_cons_of_mem _ ?_))) (fun x h => absurd h List.not_mem_nil) ht2 (by omega) (nil_lies9 _) (X.out.lies (d := .l L5) (cs := [.slice A5 n5 c5]) (by repeat (first | exact List.mem_cons_self | refine List.mem_cons_of_mem _ ?_))) (fun x h => absurd h List.not_mem_nil) ht5 (by simp [Dat.bulk, bulkAll]) hm5 (nil_lies9 _) (X.out.lies (d := .l L6) (cs := [.slice A6 n6 c6]) (by repeat (first | exact List.mem_cons_self | refine List.mem_cons_of_mem _ ?_))) (fun x h => absurd h List.not_mem_nil) ht6 (by omega)).mono ?_); rintro e u4 ⟨rfl, hb5⟩; rw [HR.out]; replace X := Lib.hid (X.out.below hb5); clear hb5))
      all_goals (
        go_wp2_with fail
        go_ret
        exact GivesBool.of HN.out X.out.low)
theorem implIsEnt (f0 : Int) (f1 : Int) (L2 : List Dat) (A2 : Option Addr) (n2 c2 : Nat) (f3 : Int) (f4_0 : Int) (f4_1 : Int) (L5 : List Dat) (A5 : Option Addr) (n5 c5 : Nat) (L6 : List Dat) (A6 : Option Addr) (n6 c6 : Nat) (f7 : Int) (f8 : Int) (f9 : Int) (f10 : Int) (e : Int) (w : World) (hl2 : Lies w (.l L2) [.slice A2 n2 c2]) (ht2 : ∀ x ∈ L2, Has tyValue x) (hm2 : n2 ≤ 9223372036854775807) (hl5 : Lies w (.l L5) [.slice A5 n5 c5]) (ht5 : ∀ x ∈ L5, Has tySent x) (hm5 : n5 ≤ 9223372036854775807) (hl6 : Lies w (.l L6) [.slice A6 n6 c6]) (ht6 : ∀ x ∈ L6, Has tyAsker x) (hm6 : n6 ≤ 9223372036854775807) (hq5 : (Dat.l L5).bulk ≤ 1099511627776) (hn2 : n2 ≤ 1099511627776) (hn5 : n5 ≤ 1099511627776) (hn6 : n6 ≤ 1099511627776) : Calls Try.prog 18 #[.agg #[.int .i64 f0, .int .i64 f1, .slice A2 n2 c2, .int .i64 f3, .int .i64 f4_0, .int .i64 f4_1, .slice A5 n5 c5, .slice A6 n6 c6, .int .i64 f7, .int .i64 f8, .int .i64 f9, .int .i64 f10], .int .i64 e] w (GivesBool (entB f0 f1 (vs L2) n2 f3 f4_0 f4_1 n5 n6 f7 f8 f9 f10 e) w) := by
  by_cases h1 : f0 = 1
  · subst h1
    exact isEnt1 f1 L2 A2 n2 c2 f3 f4_0 f4_1 L5 A5 n5 c5 L6 A6 n6 c6 f7 f8 f9 f10 e w hl2 ht2 hm2 hl5 ht5 hm5 hl6 ht6 hm6 hq5 hn2 hn5 hn6
  · by_cases h2 : f0 = 2
    · subst h2
      exact isEnt2 f1 L2 A2 n2 c2 f3 f4_0 f4_1 L5 A5 n5 c5 L6 A6 n6 c6 f7 f8 f9 f10 e w hl2 ht2 hm2 hl5 ht5 hm5 hl6 ht6 hm6 hq5 hn2 hn5 hn6
    · by_cases h3 : f0 = 3
      · subst h3
        exact isEnt3 f1 L2 A2 n2 c2 f3 f4_0 f4_1 L5 A5 n5 c5 L6 A6 n6 c6 f7 f8 f9 f10 e w hl2 ht2 hm2 hl5 ht5 hm5 hl6 ht6 hm6 hq5 hn2 hn5 hn6
      · exact isEnt0 f0 f1 L2 A2 n2 c2 f3 f4_0 f4_1 L5 A5 n5 c5 L6 A6 n6 c6 f7 f8 f9 f10 e w hl2 ht2 hm2 hl5 ht5 hm5 hl6 ht6 hm6 hq5 hn2 hn5 hn6 h1 h2 h3
end Go.Proofs.Ytfgijebgnkikpaa
