/- Chapter 11: the reference's IsMessage. -/
import Derived.Test.YtchofnligbgigaaIsW
import Derived.Deep.CutRange
import Derived.LoopTactic
import Derived.Lib.Hide
import Derived.Deep.QuietTactic
import Derived.BigQuiet
import Derived.Deep.RegionWith
import Derived.Handy
namespace Go.Proofs.Ytchofnligbgigaa
open Go.RowKit
set_option linter.unusedVariables false
set_option linter.unusedSimpArgs false
set_option maxRecDepth 100000 in
set_option maxHeartbeats 40000000 in
theorem specIsMsg (f0 : Int) (f1 : Int) (f2 : Int) (f3 : Int) (f4 : ByteArray) (L5 : List Dat) (A5 : Option Addr) (n5 c5 : Nat) (f6_0 : Int) (f6_1 : Int) (f7 : Int) (f8_0 : Int) (f8_1 : Int) (f8_2 : Int) (w : World) (hl5 : Lies w (.l L5) [.slice A5 n5 c5]) (ht5 : ∀ x ∈ L5, Has tyWire x) (hn5 : n5 ≤ 1099511627776) (hs4 : f4.size ≤ 140737488351232) : Calls Try.prog 14 #[.agg #[.int .i64 f0, .int .i64 f1, .int .i64 f2, .int .i64 f3, .string f4, .slice A5 n5 c5, .int .i64 f6_0, .int .i64 f6_1, .int .i64 f7, .int .i64 f8_0, .int .i64 f8_1, .int .i64 f8_2]] w (GivesBool (msgB f0 f1 f2 f3 f4 L5 f6_0 f6_1 f7 f8_0 f8_1 f8_2) w) := by
  obtain ⟨V, hV⟩ : ∃ V, msgB f0 f1 f2 f3 f4 L5 f6_0 f6_1 f7 f8_0 f8_1 f8_2 = V := ⟨_, rfl⟩
  rw [hV]
  have HV := Lib.hid hV
  clear hV
  obtain ⟨cm, hcm⟩ : ∃ cm, calmB f2 f4 L5 f8_0 f8_1 f8_2 = cm := ⟨_, rfl⟩
  have HCM := Lib.hid hcm
  clear hcm
  have HC5 := Lib.hid hl5.count
  have HL5 := Lib.hid hl5
  have HT5 := Lib.hid ht5
  clear hl5 ht5
  have X := ((Held.start w).push #[.int .i64 f0, .int .i64 f1, .int .i64 f2, .int .i64 f3, .string f4, .slice A5 n5 c5, .int .i64 f6_0, .int .i64 f6_1, .int .i64 f7, .int .i64 f8_0, .int .i64 f8_1, .int .i64 f8_2] 30).push #[.int .i64 0, .int .i64 0] 26
  simp only [World.size_alloc] at X
  replace X := Lib.hid X
  go_enter Try.func14, Try.ntmps14
  go_upto_region 2 with (fail)
  go_cut [4] from 8 to 27 (fun s4 wx => s4 = .bool cm ∧ Held w [(w.heap.size + 1, [.int .i64 0, .int .i64 0]), (w.heap.size, [.int .i64 f0, .int .i64 f1, .int .i64 f2, .int .i64 f3, .string f4, .slice A5 n5 c5, .int .i64 f6_0, .int .i64 f6_1, .int .i64 f7, .int .i64 f8_0, .int .i64 f8_1, .int .i64 f8_2])] wx)
  case first =>
    by_cases ef2 : f2 = 0
    · subst ef2
      by_cases ef4 : f4 = ⟨#[]⟩
      · subst ef4
        by_cases en : (0 : Int) < n5
        · have bn : ((n5 : Int) == 0) = false := by rw [beq_eq_false_iff_ne]; omega
          have hl : ¬ L5 = [] := fun h => by have h1 := HC5.out; subst h; simp at h1; omega
          have HLL := Lib.hid hl
          clear hl
          have HM : Hid (false = cm) := Lib.hid (by rw [← HCM.out]; simp [calmB, zzz, show (⟨#[]⟩ : ByteArray) = ByteArray.empty from rfl, HLL.out])
          go_wp2_with fail
          go_meet
          exact ⟨by rw [HM.out], X.out⟩
        · have bn : ((n5 : Int) == 0) = true := by rw [beq_iff_eq]; omega
          have hl : L5 = [] := List.length_eq_zero_iff.1 (by have h1 := HC5.out; omega)
          have HLL := Lib.hid hl
          clear hl
          by_cases ef8_0 : f8_0 = 0
          · subst ef8_0
            by_cases ef8_1 : f8_1 = 0
            · subst ef8_1
              by_cases ef8_2 : f8_2 = 0
              · subst ef8_2
                have HM : Hid (true = cm) := Lib.hid (by rw [← HCM.out]; simp [calmB, zzz, show (⟨#[]⟩ : ByteArray) = ByteArray.empty from rfl, HLL.out])
                go_wp2_with fail
                go_meet
                exact ⟨by rw [HM.out], X.out⟩
              · have bf8_2 : (f8_2 == 0) = false := by simpa using ef8_2
                have df8_2 : (0 == f8_2) = false := by simpa using fun h => ef8_2 h.symm
                have HM : Hid (false = cm) := Lib.hid (by rw [← HCM.out]; simp [calmB, zzz, show (⟨#[]⟩ : ByteArray) = ByteArray.empty from rfl, HLL.out, ef8_2])
                go_wp2_with fail
                go_meet
                exact ⟨by rw [HM.out], X.out⟩
            · have bf8_1 : (f8_1 == 0) = false := by simpa using ef8_1
              have df8_1 : (0 == f8_1) = false := by simpa using fun h => ef8_1 h.symm
              have HM : Hid (false = cm) := Lib.hid (by rw [← HCM.out]; simp [calmB, zzz, show (⟨#[]⟩ : ByteArray) = ByteArray.empty from rfl, HLL.out, ef8_1])
              go_wp2_with fail
              go_meet
              exact ⟨by rw [HM.out], X.out⟩
          · have bf8_0 : (f8_0 == 0) = false := by simpa using ef8_0
            have df8_0 : (0 == f8_0) = false := by simpa using fun h => ef8_0 h.symm
            have HM : Hid (false = cm) := Lib.hid (by rw [← HCM.out]; simp [calmB, zzz, show (⟨#[]⟩ : ByteArray) = ByteArray.empty from rfl, HLL.out, ef8_0])
            go_wp2_with fail
            go_meet
            exact ⟨by rw [HM.out], X.out⟩
      · have he1 := bytesNe ef4
        have he2 := bytesNeb ef4
        have he4 : f4.toList.isEmpty = false := by cases h : f4.toList with | nil => exact absurd (h.trans (by rw [ByteArray.toList_eq])) he1 | cons => rfl
        have he3 : ¬ f4.size = 0 := fun h => ef4 (size0.1 h)
        have HE3 := Lib.hid he3
        clear he3
        have HM : Hid (false = cm) := Lib.hid (by rw [← HCM.out]; simp [calmB, zzz, HE3.out])
        go_wp2_with fail
        go_meet
        exact ⟨by rw [HM.out], X.out⟩
    · have bf2 : (f2 == 0) = false := by simpa using ef2
      have df2 : (0 == f2) = false := by simpa using fun h => ef2 h.symm
      have HM : Hid (false = cm) := Lib.hid (by rw [← HCM.out]; simp [calmB, zzz, ef2])
      go_wp2_with fail
      go_meet
      exact ⟨by rw [HM.out], X.out⟩
  case rest =>
  obtain ⟨rfl, hX⟩ := hcut
  clear X
  have X := Lib.hid hX
  clear hX
  have x0 := X.out.at_ (g := w.heap.size) (i := 0) (v := .int .i64 f0) (cs := [.int .i64 f0, .int .i64 f1, .int .i64 f2, .int .i64 f3, .string f4, .slice A5 n5 c5, .int .i64 f6_0, .int .i64 f6_1, .int .i64 f7, .int .i64 f8_0, .int .i64 f8_1, .int .i64 f8_2]) (by repeat (first | exact List.mem_cons_self | refine List.mem_cons_of_mem _ ?_)) rfl
  have x1 := X.out.at_ (g := w.heap.size) (i := 1) (v := .int .i64 f1) (cs := [.int .i64 f0, .int .i64 f1, .int .i64 f2, .int .i64 f3, .string f4, .slice A5 n5 c5, .int .i64 f6_0, .int .i64 f6_1, .int .i64 f7, .int .i64 f8_0, .int .i64 f8_1, .int .i64 f8_2]) (by repeat (first | exact List.mem_cons_self | refine List.mem_cons_of_mem _ ?_)) rfl
  have x2 := X.out.at_ (g := w.heap.size) (i := 2) (v := .int .i64 f2) (cs := [.int .i64 f0, .int .i64 f1, .int .i64 f2, .int .i64 f3, .string f4, .slice A5 n5 c5, .int .i64 f6_0, .int .i64 f6_1, .int .i64 f7, .int .i64 f8_0, .int .i64 f8_1, .int .i64 f8_2]) (by repeat (first | exact List.mem_cons_self | refine List.mem_cons_of_mem _ ?_)) rfl
  have x3 := X.out.at_ (g := w.heap.size) (i := 3) (v := .int .i64 f3) (cs := [.int .i64 f0, .int .i64 f1, .int .i64 f2, .int .i64 f3, .string f4, .slice A5 n5 c5, .int .i64 f6_0, .int .i64 f6_1, .int .i64 f7, .int .i64 f8_0, .int .i64 f8_1, .int .i64 f8_2]) (by repeat (first | exact List.mem_cons_self | refine List.mem_cons_of_mem _ ?_)) rfl
  have x4 := X.out.at_ (g := w.heap.size) (i := 4) (v := .string f4) (cs := [.int .i64 f0, .int .i64 f1, .int .i64 f2, .int .i64 f3, .string f4, .slice A5 n5 c5, .int .i64 f6_0, .int .i64 f6_1, .int .i64 f7, .int .i64 f8_0, .int .i64 f8_1, .int .i64 f8_2]) (by repeat (first | exact List.mem_cons_self | refine List.mem_cons_of_mem _ ?_)) rfl
  have x5 := X.out.at_ (g := w.heap.size) (i := 5) (v := .slice A5 n5 c5) (cs := [.int .i64 f0, .int .i64 f1, .int .i64 f2, .int .i64 f3, .string f4, .slice A5 n5 c5, .int .i64 f6_0, .int .i64 f6_1, .int .i64 f7, .int .i64 f8_0, .int .i64 f8_1, .int .i64 f8_2]) (by repeat (first | exact List.mem_cons_self | refine List.mem_cons_of_mem _ ?_)) rfl
  have x6 := X.out.at_ (g := w.heap.size) (i := 6) (v := .int .i64 f6_0) (cs := [.int .i64 f0, .int .i64 f1, .int .i64 f2, .int .i64 f3, .string f4, .slice A5 n5 c5, .int .i64 f6_0, .int .i64 f6_1, .int .i64 f7, .int .i64 f8_0, .int .i64 f8_1, .int .i64 f8_2]) (by repeat (first | exact List.mem_cons_self | refine List.mem_cons_of_mem _ ?_)) rfl
  have x7 := X.out.at_ (g := w.heap.size) (i := 7) (v := .int .i64 f6_1) (cs := [.int .i64 f0, .int .i64 f1, .int .i64 f2, .int .i64 f3, .string f4, .slice A5 n5 c5, .int .i64 f6_0, .int .i64 f6_1, .int .i64 f7, .int .i64 f8_0, .int .i64 f8_1, .int .i64 f8_2]) (by repeat (first | exact List.mem_cons_self | refine List.mem_cons_of_mem _ ?_)) rfl
  have x8 := X.out.at_ (g := w.heap.size) (i := 8) (v := .int .i64 f7) (cs := [.int .i64 f0, .int .i64 f1, .int .i64 f2, .int .i64 f3, .string f4, .slice A5 n5 c5, .int .i64 f6_0, .int .i64 f6_1, .int .i64 f7, .int .i64 f8_0, .int .i64 f8_1, .int .i64 f8_2]) (by repeat (first | exact List.mem_cons_self | refine List.mem_cons_of_mem _ ?_)) rfl
  have x9 := X.out.at_ (g := w.heap.size) (i := 9) (v := .int .i64 f8_0) (cs := [.int .i64 f0, .int .i64 f1, .int .i64 f2, .int .i64 f3, .string f4, .slice A5 n5 c5, .int .i64 f6_0, .int .i64 f6_1, .int .i64 f7, .int .i64 f8_0, .int .i64 f8_1, .int .i64 f8_2]) (by repeat (first | exact List.mem_cons_self | refine List.mem_cons_of_mem _ ?_)) rfl
  have x10 := X.out.at_ (g := w.heap.size) (i := 10) (v := .int .i64 f8_1) (cs := [.int .i64 f0, .int .i64 f1, .int .i64 f2, .int .i64 f3, .string f4, .slice A5 n5 c5, .int .i64 f6_0, .int .i64 f6_1, .int .i64 f7, .int .i64 f8_0, .int .i64 f8_1, .int .i64 f8_2]) (by repeat (first | exact List.mem_cons_self | refine List.mem_cons_of_mem _ ?_)) rfl
  have x11 := X.out.at_ (g := w.heap.size) (i := 11) (v := .int .i64 f8_2) (cs := [.int .i64 f0, .int .i64 f1, .int .i64 f2, .int .i64 f3, .string f4, .slice A5 n5 c5, .int .i64 f6_0, .int .i64 f6_1, .int .i64 f7, .int .i64 f8_0, .int .i64 f8_1, .int .i64 f8_2]) (by repeat (first | exact List.mem_cons_self | refine List.mem_cons_of_mem _ ?_)) rfl
  have y0 := X.out.at_ (g := w.heap.size + 1) (i := 0) (v := .int .i64 0) (cs := [.int .i64 0, .int .i64 0]) (by repeat (first | exact List.mem_cons_self | refine List.mem_cons_of_mem _ ?_)) rfl
  have y1 := X.out.at_ (g := w.heap.size + 1) (i := 1) (v := .int .i64 0) (cs := [.int .i64 0, .int .i64 0]) (by repeat (first | exact List.mem_cons_self | refine List.mem_cons_of_mem _ ?_)) rfl
  by_cases k1 : f0 = 1
  · subst k1
    clear x0 x1 x2 x3 x4 x5 x6 x7 x8 x9 x10 x11 y0 y1
    have x0 := X.out.at_ (g := w.heap.size) (i := 0) (v := .int .i64 1) (cs := [.int .i64 1, .int .i64 f1, .int .i64 f2, .int .i64 f3, .string f4, .slice A5 n5 c5, .int .i64 f6_0, .int .i64 f6_1, .int .i64 f7, .int .i64 f8_0, .int .i64 f8_1, .int .i64 f8_2]) (by repeat (first | exact List.mem_cons_self | refine List.mem_cons_of_mem _ ?_)) rfl
    have x1 := X.out.at_ (g := w.heap.size) (i := 1) (v := .int .i64 f1) (cs := [.int .i64 1, .int .i64 f1, .int .i64 f2, .int .i64 f3, .string f4, .slice A5 n5 c5, .int .i64 f6_0, .int .i64 f6_1, .int .i64 f7, .int .i64 f8_0, .int .i64 f8_1, .int .i64 f8_2]) (by repeat (first | exact List.mem_cons_self | refine List.mem_cons_of_mem _ ?_)) rfl
    have x2 := X.out.at_ (g := w.heap.size) (i := 2) (v := .int .i64 f2) (cs := [.int .i64 1, .int .i64 f1, .int .i64 f2, .int .i64 f3, .string f4, .slice A5 n5 c5, .int .i64 f6_0, .int .i64 f6_1, .int .i64 f7, .int .i64 f8_0, .int .i64 f8_1, .int .i64 f8_2]) (by repeat (first | exact List.mem_cons_self | refine List.mem_cons_of_mem _ ?_)) rfl
    have x3 := X.out.at_ (g := w.heap.size) (i := 3) (v := .int .i64 f3) (cs := [.int .i64 1, .int .i64 f1, .int .i64 f2, .int .i64 f3, .string f4, .slice A5 n5 c5, .int .i64 f6_0, .int .i64 f6_1, .int .i64 f7, .int .i64 f8_0, .int .i64 f8_1, .int .i64 f8_2]) (by repeat (first | exact List.mem_cons_self | refine List.mem_cons_of_mem _ ?_)) rfl
    have x4 := X.out.at_ (g := w.heap.size) (i := 4) (v := .string f4) (cs := [.int .i64 1, .int .i64 f1, .int .i64 f2, .int .i64 f3, .string f4, .slice A5 n5 c5, .int .i64 f6_0, .int .i64 f6_1, .int .i64 f7, .int .i64 f8_0, .int .i64 f8_1, .int .i64 f8_2]) (by repeat (first | exact List.mem_cons_self | refine List.mem_cons_of_mem _ ?_)) rfl
    have x5 := X.out.at_ (g := w.heap.size) (i := 5) (v := .slice A5 n5 c5) (cs := [.int .i64 1, .int .i64 f1, .int .i64 f2, .int .i64 f3, .string f4, .slice A5 n5 c5, .int .i64 f6_0, .int .i64 f6_1, .int .i64 f7, .int .i64 f8_0, .int .i64 f8_1, .int .i64 f8_2]) (by repeat (first | exact List.mem_cons_self | refine List.mem_cons_of_mem _ ?_)) rfl
    have x6 := X.out.at_ (g := w.heap.size) (i := 6) (v := .int .i64 f6_0) (cs := [.int .i64 1, .int .i64 f1, .int .i64 f2, .int .i64 f3, .string f4, .slice A5 n5 c5, .int .i64 f6_0, .int .i64 f6_1, .int .i64 f7, .int .i64 f8_0, .int .i64 f8_1, .int .i64 f8_2]) (by repeat (first | exact List.mem_cons_self | refine List.mem_cons_of_mem _ ?_)) rfl
    have x7 := X.out.at_ (g := w.heap.size) (i := 7) (v := .int .i64 f6_1) (cs := [.int .i64 1, .int .i64 f1, .int .i64 f2, .int .i64 f3, .string f4, .slice A5 n5 c5, .int .i64 f6_0, .int .i64 f6_1, .int .i64 f7, .int .i64 f8_0, .int .i64 f8_1, .int .i64 f8_2]) (by repeat (first | exact List.mem_cons_self | refine List.mem_cons_of_mem _ ?_)) rfl
    have x8 := X.out.at_ (g := w.heap.size) (i := 8) (v := .int .i64 f7) (cs := [.int .i64 1, .int .i64 f1, .int .i64 f2, .int .i64 f3, .string f4, .slice A5 n5 c5, .int .i64 f6_0, .int .i64 f6_1, .int .i64 f7, .int .i64 f8_0, .int .i64 f8_1, .int .i64 f8_2]) (by repeat (first | exact List.mem_cons_self | refine List.mem_cons_of_mem _ ?_)) rfl
    have x9 := X.out.at_ (g := w.heap.size) (i := 9) (v := .int .i64 f8_0) (cs := [.int .i64 1, .int .i64 f1, .int .i64 f2, .int .i64 f3, .string f4, .slice A5 n5 c5, .int .i64 f6_0, .int .i64 f6_1, .int .i64 f7, .int .i64 f8_0, .int .i64 f8_1, .int .i64 f8_2]) (by repeat (first | exact List.mem_cons_self | refine List.mem_cons_of_mem _ ?_)) rfl
    have x10 := X.out.at_ (g := w.heap.size) (i := 10) (v := .int .i64 f8_1) (cs := [.int .i64 1, .int .i64 f1, .int .i64 f2, .int .i64 f3, .string f4, .slice A5 n5 c5, .int .i64 f6_0, .int .i64 f6_1, .int .i64 f7, .int .i64 f8_0, .int .i64 f8_1, .int .i64 f8_2]) (by repeat (first | exact List.mem_cons_self | refine List.mem_cons_of_mem _ ?_)) rfl
    have x11 := X.out.at_ (g := w.heap.size) (i := 11) (v := .int .i64 f8_2) (cs := [.int .i64 1, .int .i64 f1, .int .i64 f2, .int .i64 f3, .string f4, .slice A5 n5 c5, .int .i64 f6_0, .int .i64 f6_1, .int .i64 f7, .int .i64 f8_0, .int .i64 f8_1, .int .i64 f8_2]) (by repeat (first | exact List.mem_cons_self | refine List.mem_cons_of_mem _ ?_)) rfl
    have y0 := X.out.at_ (g := w.heap.size + 1) (i := 0) (v := .int .i64 0) (cs := [.int .i64 0, .int .i64 0]) (by repeat (first | exact List.mem_cons_self | refine List.mem_cons_of_mem _ ?_)) rfl
    have y1 := X.out.at_ (g := w.heap.size + 1) (i := 1) (v := .int .i64 0) (cs := [.int .i64 0, .int .i64 0]) (by repeat (first | exact List.mem_cons_self | refine List.mem_cons_of_mem _ ?_)) rfl
    go_wp2_with fail
    go_loopw [5] (fun iv wr => ∃ i : Nat, i ≤ n5 ∧ iv = .int .i64 i ∧ (∀ (j : Nat) (d : Dat), j < i → L5[j]? = some d → wireD d = true) ∧ Held w [(w.heap.size + 1, [.int .i64 0, .int .i64 0]), (w.heap.size, [.int .i64 1, .int .i64 f1, .int .i64 f2, .int .i64 f3, .string f4, .slice A5 n5 c5, .int .i64 f6_0, .int .i64 f6_1, .int .i64 f7, .int .i64 f8_0, .int .i64 f8_1, .int .i64 f8_2])] wr) (fun iv _ => n5 - (intOf iv).toNat)
    case atStart => exact ⟨0, Nat.zero_le _, rfl, fun j d hj => by omega, X.out⟩
    case round =>
      obtain ⟨i, hin, rfl, hno, hX⟩ := hrel
      clear X
      have X := Lib.hid hX
      have HNO := Lib.hid hno
      clear hX hno
      clear x0 x1 x2 x3 x4 x5 x6 x7 x8 x9 x10 x11 y0 y1
      by_cases hlt : i < n5
      · obtain ⟨b, off, d, xs, rfl, hbw, hzi, hlie, hlen, hcell⟩ := (HL5.out.below X.out.1).elem (fun x hx => (HT5.out x hx).width) hlt
        obtain ⟨p0, p1, hd, rfl⟩ := invWire (HT5.out d (List.mem_of_getElem? hzi)) hlie
        have r0 : wr.cell? ⟨b, off + i * 2, none⟩ = some (.int .i64 p0) := hcell 0 _ rfl
        have r1 : wr.cell? ⟨b, off + i * 2 + 1, none⟩ = some (.int .i64 p1) := hcell 1 _ rfl
        have HZ := Lib.hid hzi
        have HD := Lib.hid hd
        clear hzi hcell hlie hd
        have x5 := X.out.at_ (g := w.heap.size) (i := 5) (v := .slice (some ⟨b, off, none⟩) n5 c5) (cs := [.int .i64 1, .int .i64 f1, .int .i64 f2, .int .i64 f3, .string f4, .slice (some ⟨b, off, none⟩) n5 c5, .int .i64 f6_0, .int .i64 f6_1, .int .i64 f7, .int .i64 f8_0, .int .i64 f8_1, .int .i64 f8_2]) (by repeat (first | exact List.mem_cons_self | refine List.mem_cons_of_mem _ ?_)) rfl
        go_wp2_with fail
        refine (specIsW p0 p1 _).mono ?_
        rintro e w9 ⟨rfl, hb⟩
        replace X := Lib.hid (X.out.below hb)
        clear hb
        rcases hw : wireB p0 p1 with _ | _
        · have HW : Hid (wireD d = false) := Lib.hid (by rw [HD.out]; exact hw)
          have HA : Hid (L5.all wireD = false) := Lib.hid (List.all_eq_false.2 ⟨d, List.mem_of_getElem? HZ.out, by rw [HW.out]; simp⟩)
          clear hw
          have HN : Hid (false = V) := Lib.hid (by rw [← HV.out]; simp [msgB, argsB, zz, tagB, numB, HA.out])
          go_wp2_with fail
          go_ret
          exact GivesBool.of HN.out X.out.1
        · have HW : Hid (wireD d = true) := Lib.hid (by rw [HD.out]; exact hw)
          clear hw
          have HN2 : Hid (∀ (j : Nat) (d : Dat), j < i + 1 → L5[j]? = some d → wireD d = true) := Lib.hid (fun j d' hj hd' => by
            by_cases hji : j < i
            · exact HNO.out j d' hji hd'
            · obtain rfl : j = i := by omega
              rw [HZ.out] at hd'
              obtain rfl := Option.some.inj hd'
              exact HW.out)
          go_wp2_with fail
          go_roundw
          case rel => exact ⟨i + 1, by omega, by go_num, HN2.out, X.out⟩
          case measure => (simp [intOf]; try omega)
      · obtain rfl : n5 = i := by omega
        have HA : Hid (L5.all wireD = true) := Lib.hid (List.all_eq_true.2 (fun d hd => by
          obtain ⟨j, hj⟩ := List.mem_iff_getElem?.1 hd
          exact HNO.out j d (by have h1 := (List.getElem?_eq_some_iff.1 hj).1; have h2 := HC5.out; omega) hj))
        clear HNO
        have x0 := X.out.at_ (g := w.heap.size) (i := 0) (v := .int .i64 1) (cs := [.int .i64 1, .int .i64 f1, .int .i64 f2, .int .i64 f3, .string f4, .slice A5 n5 c5, .int .i64 f6_0, .int .i64 f6_1, .int .i64 f7, .int .i64 f8_0, .int .i64 f8_1, .int .i64 f8_2]) (by repeat (first | exact List.mem_cons_self | refine List.mem_cons_of_mem _ ?_)) rfl
        have x1 := X.out.at_ (g := w.heap.size) (i := 1) (v := .int .i64 f1) (cs := [.int .i64 1, .int .i64 f1, .int .i64 f2, .int .i64 f3, .string f4, .slice A5 n5 c5, .int .i64 f6_0, .int .i64 f6_1, .int .i64 f7, .int .i64 f8_0, .int .i64 f8_1, .int .i64 f8_2]) (by repeat (first | exact List.mem_cons_self | refine List.mem_cons_of_mem _ ?_)) rfl
        have x2 := X.out.at_ (g := w.heap.size) (i := 2) (v := .int .i64 f2) (cs := [.int .i64 1, .int .i64 f1, .int .i64 f2, .int .i64 f3, .string f4, .slice A5 n5 c5, .int .i64 f6_0, .int .i64 f6_1, .int .i64 f7, .int .i64 f8_0, .int .i64 f8_1, .int .i64 f8_2]) (by repeat (first | exact List.mem_cons_self | refine List.mem_cons_of_mem _ ?_)) rfl
        have x3 := X.out.at_ (g := w.heap.size) (i := 3) (v := .int .i64 f3) (cs := [.int .i64 1, .int .i64 f1, .int .i64 f2, .int .i64 f3, .string f4, .slice A5 n5 c5, .int .i64 f6_0, .int .i64 f6_1, .int .i64 f7, .int .i64 f8_0, .int .i64 f8_1, .int .i64 f8_2]) (by repeat (first | exact List.mem_cons_self | refine List.mem_cons_of_mem _ ?_)) rfl
        have x4 := X.out.at_ (g := w.heap.size) (i := 4) (v := .string f4) (cs := [.int .i64 1, .int .i64 f1, .int .i64 f2, .int .i64 f3, .string f4, .slice A5 n5 c5, .int .i64 f6_0, .int .i64 f6_1, .int .i64 f7, .int .i64 f8_0, .int .i64 f8_1, .int .i64 f8_2]) (by repeat (first | exact List.mem_cons_self | refine List.mem_cons_of_mem _ ?_)) rfl
        have x5 := X.out.at_ (g := w.heap.size) (i := 5) (v := .slice A5 n5 c5) (cs := [.int .i64 1, .int .i64 f1, .int .i64 f2, .int .i64 f3, .string f4, .slice A5 n5 c5, .int .i64 f6_0, .int .i64 f6_1, .int .i64 f7, .int .i64 f8_0, .int .i64 f8_1, .int .i64 f8_2]) (by repeat (first | exact List.mem_cons_self | refine List.mem_cons_of_mem _ ?_)) rfl
        have x6 := X.out.at_ (g := w.heap.size) (i := 6) (v := .int .i64 f6_0) (cs := [.int .i64 1, .int .i64 f1, .int .i64 f2, .int .i64 f3, .string f4, .slice A5 n5 c5, .int .i64 f6_0, .int .i64 f6_1, .int .i64 f7, .int .i64 f8_0, .int .i64 f8_1, .int .i64 f8_2]) (by repeat (first | exact List.mem_cons_self | refine List.mem_cons_of_mem _ ?_)) rfl
        have x7 := X.out.at_ (g := w.heap.size) (i := 7) (v := .int .i64 f6_1) (cs := [.int .i64 1, .int .i64 f1, .int .i64 f2, .int .i64 f3, .string f4, .slice A5 n5 c5, .int .i64 f6_0, .int .i64 f6_1, .int .i64 f7, .int .i64 f8_0, .int .i64 f8_1, .int .i64 f8_2]) (by repeat (first | exact List.mem_cons_self | refine List.mem_cons_of_mem _ ?_)) rfl
        have x8 := X.out.at_ (g := w.heap.size) (i := 8) (v := .int .i64 f7) (cs := [.int .i64 1, .int .i64 f1, .int .i64 f2, .int .i64 f3, .string f4, .slice A5 n5 c5, .int .i64 f6_0, .int .i64 f6_1, .int .i64 f7, .int .i64 f8_0, .int .i64 f8_1, .int .i64 f8_2]) (by repeat (first | exact List.mem_cons_self | refine List.mem_cons_of_mem _ ?_)) rfl
        have x9 := X.out.at_ (g := w.heap.size) (i := 9) (v := .int .i64 f8_0) (cs := [.int .i64 1, .int .i64 f1, .int .i64 f2, .int .i64 f3, .string f4, .slice A5 n5 c5, .int .i64 f6_0, .int .i64 f6_1, .int .i64 f7, .int .i64 f8_0, .int .i64 f8_1, .int .i64 f8_2]) (by repeat (first | exact List.mem_cons_self | refine List.mem_cons_of_mem _ ?_)) rfl
        have x10 := X.out.at_ (g := w.heap.size) (i := 10) (v := .int .i64 f8_1) (cs := [.int .i64 1, .int .i64 f1, .int .i64 f2, .int .i64 f3, .string f4, .slice A5 n5 c5, .int .i64 f6_0, .int .i64 f6_1, .int .i64 f7, .int .i64 f8_0, .int .i64 f8_1, .int .i64 f8_2]) (by repeat (first | exact List.mem_cons_self | refine List.mem_cons_of_mem _ ?_)) rfl
        have x11 := X.out.at_ (g := w.heap.size) (i := 11) (v := .int .i64 f8_2) (cs := [.int .i64 1, .int .i64 f1, .int .i64 f2, .int .i64 f3, .string f4, .slice A5 n5 c5, .int .i64 f6_0, .int .i64 f6_1, .int .i64 f7, .int .i64 f8_0, .int .i64 f8_1, .int .i64 f8_2]) (by repeat (first | exact List.mem_cons_self | refine List.mem_cons_of_mem _ ?_)) rfl
        have y0 := X.out.at_ (g := w.heap.size + 1) (i := 0) (v := .int .i64 0) (cs := [.int .i64 0, .int .i64 0]) (by repeat (first | exact List.mem_cons_self | refine List.mem_cons_of_mem _ ?_)) rfl
        have y1 := X.out.at_ (g := w.heap.size + 1) (i := 1) (v := .int .i64 0) (cs := [.int .i64 0, .int .i64 0]) (by repeat (first | exact List.mem_cons_self | refine List.mem_cons_of_mem _ ?_)) rfl
        obtain ⟨tb, htb⟩ : ∃ tb, oneTo f1 f2 = tb := ⟨_, rfl⟩
        have HTB := Lib.hid htb
        clear htb
        go_upto_region 10 with (fail)
        go_cut [6] from 46 to 63 (fun s6 wx => s6 = .bool tb ∧ Held w [(w.heap.size + 1, [.int .i64 0, .int .i64 0]), (w.heap.size, [.int .i64 1, .int .i64 f1, .int .i64 f2, .int .i64 f3, .string f4, .slice A5 n5 c5, .int .i64 f6_0, .int .i64 f6_1, .int .i64 f7, .int .i64 f8_0, .int .i64 f8_1, .int .i64 f8_2])] wx)
        case first =>
          go_wp2_with fail
          refine (specOne f1 _).mono ?_
          rintro e w9 ⟨rfl, rfl⟩
          rcases h1 : oneB f1 with _ | _
          · have H1 : Hid (oneB f1 = false) := Lib.hid h1
            clear h1
            go_wp2_with fail
            refine (specOne f2 _).mono ?_
            rintro e w9 ⟨rfl, rfl⟩
            rcases h2 : oneB f2 with _ | _
            · have H2 : Hid (oneB f2 = false) := Lib.hid h2
              clear h2
              have HM : Hid (false = tb) := Lib.hid (by rw [← HTB.out]; simp [oneTo, H1.out, H2.out])
              go_wp2_with fail
              go_meet
              exact ⟨by rw [HM.out], X.out⟩
            · have H2 : Hid (oneB f2 = true) := Lib.hid h2
              clear h2
              by_cases e1 : f1 = 0
              · subst e1
                have HM : Hid (true = tb) := Lib.hid (by rw [← HTB.out]; simp [oneTo, H2.out])
                go_wp2_with fail
                go_meet
                exact ⟨by rw [HM.out], X.out⟩
              · have b1 : (f1 == 0) = false := by simpa using e1
                have HM : Hid (false = tb) := Lib.hid (by rw [← HTB.out]; simp [oneTo, H1.out, e1])
                go_wp2_with fail
                go_meet
                exact ⟨by rw [HM.out], X.out⟩
          · have hf1 : ¬ f1 = 0 := fun h => by subst h; exact absurd h1 (by decide)
            have bf1 : (f1 == 0) = false := by simpa using hf1
            have H1 : Hid (oneB f1 = true) := Lib.hid h1
            clear h1
            by_cases e2 : f2 = 0
            · subst e2
              have HM : Hid (true = tb) := Lib.hid (by rw [← HTB.out]; simp [oneTo, H1.out, hf1])
              go_wp2_with fail
              go_meet
              exact ⟨by rw [HM.out], X.out⟩
            · have b2 : (f2 == 0) = false := by simpa using e2
              go_wp2_with fail
              refine (specOne f2 _).mono ?_
              rintro e w9 ⟨rfl, rfl⟩
              rcases h2 : oneB f2 with _ | _
              · clear h2
                have HM : Hid (false = tb) := Lib.hid (by rw [← HTB.out]; simp [oneTo, H1.out, hf1, e2])
                go_wp2_with fail
                go_meet
                exact ⟨by rw [HM.out], X.out⟩
              · clear h2
                have HM : Hid (false = tb) := Lib.hid (by rw [← HTB.out]; simp [oneTo, H1.out, hf1, e2])
                go_wp2_with fail
                go_meet
                exact ⟨by rw [HM.out], X.out⟩
        case rest =>
        obtain ⟨rfl, hX⟩ := hcut
        clear X
        have X := Lib.hid hX
        clear hX
        clear x0 x1 x2 x3 x4 x5 x6 x7 x8 x9 x10 x11 y0 y1
        have x0 := X.out.at_ (g := w.heap.size) (i := 0) (v := .int .i64 1) (cs := [.int .i64 1, .int .i64 f1, .int .i64 f2, .int .i64 f3, .string f4, .slice A5 n5 c5, .int .i64 f6_0, .int .i64 f6_1, .int .i64 f7, .int .i64 f8_0, .int .i64 f8_1, .int .i64 f8_2]) (by repeat (first | exact List.mem_cons_self | refine List.mem_cons_of_mem _ ?_)) rfl
        have x1 := X.out.at_ (g := w.heap.size) (i := 1) (v := .int .i64 f1) (cs := [.int .i64 1, .int .i64 f1, .int .i64 f2, .int .i64 f3, .string f4, .slice A5 n5 c5, .int .i64 f6_0, .int .i64 f6_1, .int .i64 f7, .int .i64 f8_0, .int .i64 f8_1, .int .i64 f8_2]) (by repeat (first | exact List.mem_cons_self | refine List.mem_cons_of_mem _ ?_)) rfl
        have x2 := X.out.at_ (g := w.heap.size) (i := 2) (v := .int .i64 f2) (cs := [.int .i64 1, .int .i64 f1, .int .i64 f2, .int .i64 f3, .string f4, .slice A5 n5 c5, .int .i64 f6_0, .int .i64 f6_1, .int .i64 f7, .int .i64 f8_0, .int .i64 f8_1, .int .i64 f8_2]) (by repeat (first | exact List.mem_cons_self | refine List.mem_cons_of_mem _ ?_)) rfl
        have x3 := X.out.at_ (g := w.heap.size) (i := 3) (v := .int .i64 f3) (cs := [.int .i64 1, .int .i64 f1, .int .i64 f2, .int .i64 f3, .string f4, .slice A5 n5 c5, .int .i64 f6_0, .int .i64 f6_1, .int .i64 f7, .int .i64 f8_0, .int .i64 f8_1, .int .i64 f8_2]) (by repeat (first | exact List.mem_cons_self | refine List.mem_cons_of_mem _ ?_)) rfl
        have x4 := X.out.at_ (g := w.heap.size) (i := 4) (v := .string f4) (cs := [.int .i64 1, .int .i64 f1, .int .i64 f2, .int .i64 f3, .string f4, .slice A5 n5 c5, .int .i64 f6_0, .int .i64 f6_1, .int .i64 f7, .int .i64 f8_0, .int .i64 f8_1, .int .i64 f8_2]) (by repeat (first | exact List.mem_cons_self | refine List.mem_cons_of_mem _ ?_)) rfl
        have x5 := X.out.at_ (g := w.heap.size) (i := 5) (v := .slice A5 n5 c5) (cs := [.int .i64 1, .int .i64 f1, .int .i64 f2, .int .i64 f3, .string f4, .slice A5 n5 c5, .int .i64 f6_0, .int .i64 f6_1, .int .i64 f7, .int .i64 f8_0, .int .i64 f8_1, .int .i64 f8_2]) (by repeat (first | exact List.mem_cons_self | refine List.mem_cons_of_mem _ ?_)) rfl
        have x6 := X.out.at_ (g := w.heap.size) (i := 6) (v := .int .i64 f6_0) (cs := [.int .i64 1, .int .i64 f1, .int .i64 f2, .int .i64 f3, .string f4, .slice A5 n5 c5, .int .i64 f6_0, .int .i64 f6_1, .int .i64 f7, .int .i64 f8_0, .int .i64 f8_1, .int .i64 f8_2]) (by repeat (first | exact List.mem_cons_self | refine List.mem_cons_of_mem _ ?_)) rfl
        have x7 := X.out.at_ (g := w.heap.size) (i := 7) (v := .int .i64 f6_1) (cs := [.int .i64 1, .int .i64 f1, .int .i64 f2, .int .i64 f3, .string f4, .slice A5 n5 c5, .int .i64 f6_0, .int .i64 f6_1, .int .i64 f7, .int .i64 f8_0, .int .i64 f8_1, .int .i64 f8_2]) (by repeat (first | exact List.mem_cons_self | refine List.mem_cons_of_mem _ ?_)) rfl
        have x8 := X.out.at_ (g := w.heap.size) (i := 8) (v := .int .i64 f7) (cs := [.int .i64 1, .int .i64 f1, .int .i64 f2, .int .i64 f3, .string f4, .slice A5 n5 c5, .int .i64 f6_0, .int .i64 f6_1, .int .i64 f7, .int .i64 f8_0, .int .i64 f8_1, .int .i64 f8_2]) (by repeat (first | exact List.mem_cons_self | refine List.mem_cons_of_mem _ ?_)) rfl
        have x9 := X.out.at_ (g := w.heap.size) (i := 9) (v := .int .i64 f8_0) (cs := [.int .i64 1, .int .i64 f1, .int .i64 f2, .int .i64 f3, .string f4, .slice A5 n5 c5, .int .i64 f6_0, .int .i64 f6_1, .int .i64 f7, .int .i64 f8_0, .int .i64 f8_1, .int .i64 f8_2]) (by repeat (first | exact List.mem_cons_self | refine List.mem_cons_of_mem _ ?_)) rfl
        have x10 := X.out.at_ (g := w.heap.size) (i := 10) (v := .int .i64 f8_1) (cs := [.int .i64 1, .int .i64 f1, .int .i64 f2, .int .i64 f3, .string f4, .slice A5 n5 c5, .int .i64 f6_0, .int .i64 f6_1, .int .i64 f7, .int .i64 f8_0, .int .i64 f8_1, .int .i64 f8_2]) (by repeat (first | exact List.mem_cons_self | refine List.mem_cons_of_mem _ ?_)) rfl
        have x11 := X.out.at_ (g := w.heap.size) (i := 11) (v := .int .i64 f8_2) (cs := [.int .i64 1, .int .i64 f1, .int .i64 f2, .int .i64 f3, .string f4, .slice A5 n5 c5, .int .i64 f6_0, .int .i64 f6_1, .int .i64 f7, .int .i64 f8_0, .int .i64 f8_1, .int .i64 f8_2]) (by repeat (first | exact List.mem_cons_self | refine List.mem_cons_of_mem _ ?_)) rfl
        have y0 := X.out.at_ (g := w.heap.size + 1) (i := 0) (v := .int .i64 0) (cs := [.int .i64 0, .int .i64 0]) (by repeat (first | exact List.mem_cons_self | refine List.mem_cons_of_mem _ ?_)) rfl
        have y1 := X.out.at_ (g := w.heap.size + 1) (i := 1) (v := .int .i64 0) (cs := [.int .i64 0, .int .i64 0]) (by repeat (first | exact List.mem_cons_self | refine List.mem_cons_of_mem _ ?_)) rfl
        cases tb with
        | false =>
          have HN : Hid (false = V) := Lib.hid (by rw [← HV.out]; simp [msgB, argsB, zz, tagB, numB, HA.out, HTB.out])
          go_wp2_with fail
          go_ret
          exact GivesBool.of HN.out X.out.1
        | true =>
          go_wp2_with fail
          refine (specOne f3 _).mono ?_
          rintro e w9 ⟨rfl, rfl⟩
          rcases h3 : oneB f3 with _ | _
          · have H3 : Hid ((oneB f3) = false) := Lib.hid h3
            clear h3
            have HN : Hid (false = V) := Lib.hid (by rw [← HV.out]; simp [msgB, argsB, zz, tagB, numB, HA.out, HTB.out, H3.out])
            go_wp2_with fail
            go_ret
            exact GivesBool.of HN.out X.out.1
          · have H3 : Hid ((oneB f3) = true) := Lib.hid h3
            clear h3
            go_wp2_with fail
            refine (specName f4 _ hs4).mono ?_
            rintro e w9 ⟨rfl, rfl⟩
            rcases h4 : isName f4 with _ | _
            · have H4 : Hid ((isName f4) = false) := Lib.hid h4
              clear h4
              have HN : Hid (false = V) := Lib.hid (by rw [← HV.out]; simp [msgB, argsB, zz, tagB, numB, HA.out, HTB.out, H3.out, H4.out])
              go_wp2_with fail
              go_ret
              exact GivesBool.of HN.out X.out.1
            · have H4 : Hid ((isName f4) = true) := Lib.hid h4
              clear h4
              by_cases hn2 : n5 ≤ 2
              · have hl2 : L5.length ≤ 2 := by have h1 := HC5.out; omega
                have HL2 := Lib.hid hl2
                clear hl2
                by_cases ef6_0 : f6_0 = 0
                · subst ef6_0
                  by_cases ef6_1 : f6_1 = 0
                  · subst ef6_1
                    by_cases ef7 : f7 = 0
                    · subst ef7
                      go_wp2_with fail
                      refine (specOne f8_0 _).mono ?_
                      rintro e w9 ⟨rfl, rfl⟩
                      rcases h80 : oneB f8_0 with _ | _
                      · have H80 : Hid ((oneB f8_0) = false) := Lib.hid h80
                        clear h80
                        have HN : Hid (false = V) := Lib.hid (by rw [← HV.out]; simp [msgB, argsB, zz, tagB, numB, HA.out, HTB.out, H3.out, H4.out, HL2.out, H80.out])
                        go_wp2_with fail
                        go_ret
                        exact GivesBool.of HN.out X.out.1
                      · have H80 : Hid ((oneB f8_0) = true) := Lib.hid h80
                        clear h80
                        go_wp2_with fail
                        refine (specOne f8_2 _).mono ?_
                        rintro e w9 ⟨rfl, rfl⟩
                        rcases h82 : oneB f8_2 with _ | _
                        · have H82 : Hid ((oneB f8_2) = false) := Lib.hid h82
                          clear h82
                          have HN : Hid (false = V) := Lib.hid (by rw [← HV.out]; simp [msgB, argsB, zz, tagB, numB, HA.out, HTB.out, H3.out, H4.out, HL2.out, H80.out, H82.out])
                          go_wp2_with fail
                          go_ret
                          exact GivesBool.of HN.out X.out.1
                        · have H82 : Hid ((oneB f8_2) = true) := Lib.hid h82
                          clear h82
                          go_wp2_with fail
                          refine (specInR f8_1 0 999999 _).mono ?_
                          rintro e w9 ⟨rfl, rfl⟩
                          rcases h81 : inR f8_1 0 999999 with _ | _
                          · have H81 : Hid ((inR f8_1 0 999999) = false) := Lib.hid h81
                            clear h81
                            have HN : Hid (false = V) := Lib.hid (by rw [← HV.out]; simp [msgB, argsB, zz, tagB, numB, HA.out, HTB.out, H3.out, H4.out, HL2.out, H80.out, H82.out, H81.out])
                            go_wp2_with fail
                            go_ret
                            exact GivesBool.of HN.out X.out.1
                          · have H81 : Hid ((inR f8_1 0 999999) = true) := Lib.hid h81
                            clear h81
                            have HN : Hid (true = V) := Lib.hid (by rw [← HV.out]; simp [msgB, argsB, zz, tagB, numB, HA.out, HTB.out, H3.out, H4.out, HL2.out, H80.out, H82.out, H81.out])
                            go_wp2_with fail
                            go_ret
                            exact GivesBool.of HN.out X.out.1
                    · have bf7 : (f7 == 0) = false := by simpa using ef7
                      have df7 : (0 == f7) = false := by simpa using fun h => ef7 h.symm
                      have HN : Hid (false = V) := Lib.hid (by rw [← HV.out]; simp [msgB, argsB, zz, tagB, numB, HA.out, HTB.out, H3.out, H4.out, HL2.out, ef7])
                      go_wp2_with fail
                      go_ret
                      exact GivesBool.of HN.out X.out.1
                  · have bf6_1 : (f6_1 == 0) = false := by simpa using ef6_1
                    have df6_1 : (0 == f6_1) = false := by simpa using fun h => ef6_1 h.symm
                    have HN : Hid (false = V) := Lib.hid (by rw [← HV.out]; simp [msgB, argsB, zz, tagB, numB, HA.out, HTB.out, H3.out, H4.out, HL2.out, ef6_1])
                    go_wp2_with fail
                    go_ret
                    exact GivesBool.of HN.out X.out.1
                · have bf6_0 : (f6_0 == 0) = false := by simpa using ef6_0
                  have df6_0 : (0 == f6_0) = false := by simpa using fun h => ef6_0 h.symm
                  have HN : Hid (false = V) := Lib.hid (by rw [← HV.out]; simp [msgB, argsB, zz, tagB, numB, HA.out, HTB.out, H3.out, H4.out, HL2.out, ef6_0])
                  go_wp2_with fail
                  go_ret
                  exact GivesBool.of HN.out X.out.1
              · have hl2 : ¬ L5.length ≤ 2 := by have h1 := HC5.out; omega
                have HL2 := Lib.hid hl2
                clear hl2
                have HN : Hid (false = V) := Lib.hid (by rw [← HV.out]; simp [msgB, argsB, zz, tagB, numB, HA.out, HTB.out, H3.out, H4.out, HL2.out])
                go_wp2_with fail
                go_ret
                exact GivesBool.of HN.out X.out.1
  have kb1 : (f0 == 1) = false := by simpa using k1
  by_cases k2 : f0 = 2
  · subst k2
    cases cm with
    | false =>
      have HN : Hid (false = V) := Lib.hid (by rw [← HV.out]; simp [msgB, zz, HCM.out])
      go_wp2_with fail
      go_ret
      exact GivesBool.of HN.out X.out.1
    | true =>
      go_wp2_with fail
      refine (specOne f3 _).mono ?_
      rintro e w9 ⟨rfl, rfl⟩
      rcases h3 : oneB f3 with _ | _
      · have H3 : Hid ((oneB f3) = false) := Lib.hid h3
        clear h3
        have HN : Hid (false = V) := Lib.hid (by rw [← HV.out]; simp [msgB, zz, HCM.out, H3.out])
        go_wp2_with fail
        go_ret
        exact GivesBool.of HN.out X.out.1
      · have H3 : Hid ((oneB f3) = true) := Lib.hid h3
        clear h3
        go_wp2_with fail
        refine (specIsW f6_0 f6_1 _).mono ?_
        rintro e w9 ⟨rfl, hb⟩
        clear x0 x1 x2 x3 x4 x5 x6 x7 x8 x9 x10 x11 y0 y1
        replace X := Lib.hid (X.out.below hb)
        clear hb
        have x0 := X.out.at_ (g := w.heap.size) (i := 0) (v := .int .i64 2) (cs := [.int .i64 2, .int .i64 f1, .int .i64 f2, .int .i64 f3, .string f4, .slice A5 n5 c5, .int .i64 f6_0, .int .i64 f6_1, .int .i64 f7, .int .i64 f8_0, .int .i64 f8_1, .int .i64 f8_2]) (by repeat (first | exact List.mem_cons_self | refine List.mem_cons_of_mem _ ?_)) rfl
        have x1 := X.out.at_ (g := w.heap.size) (i := 1) (v := .int .i64 f1) (cs := [.int .i64 2, .int .i64 f1, .int .i64 f2, .int .i64 f3, .string f4, .slice A5 n5 c5, .int .i64 f6_0, .int .i64 f6_1, .int .i64 f7, .int .i64 f8_0, .int .i64 f8_1, .int .i64 f8_2]) (by repeat (first | exact List.mem_cons_self | refine List.mem_cons_of_mem _ ?_)) rfl
        have x2 := X.out.at_ (g := w.heap.size) (i := 2) (v := .int .i64 f2) (cs := [.int .i64 2, .int .i64 f1, .int .i64 f2, .int .i64 f3, .string f4, .slice A5 n5 c5, .int .i64 f6_0, .int .i64 f6_1, .int .i64 f7, .int .i64 f8_0, .int .i64 f8_1, .int .i64 f8_2]) (by repeat (first | exact List.mem_cons_self | refine List.mem_cons_of_mem _ ?_)) rfl
        have x3 := X.out.at_ (g := w.heap.size) (i := 3) (v := .int .i64 f3) (cs := [.int .i64 2, .int .i64 f1, .int .i64 f2, .int .i64 f3, .string f4, .slice A5 n5 c5, .int .i64 f6_0, .int .i64 f6_1, .int .i64 f7, .int .i64 f8_0, .int .i64 f8_1, .int .i64 f8_2]) (by repeat (first | exact List.mem_cons_self | refine List.mem_cons_of_mem _ ?_)) rfl
        have x4 := X.out.at_ (g := w.heap.size) (i := 4) (v := .string f4) (cs := [.int .i64 2, .int .i64 f1, .int .i64 f2, .int .i64 f3, .string f4, .slice A5 n5 c5, .int .i64 f6_0, .int .i64 f6_1, .int .i64 f7, .int .i64 f8_0, .int .i64 f8_1, .int .i64 f8_2]) (by repeat (first | exact List.mem_cons_self | refine List.mem_cons_of_mem _ ?_)) rfl
        have x5 := X.out.at_ (g := w.heap.size) (i := 5) (v := .slice A5 n5 c5) (cs := [.int .i64 2, .int .i64 f1, .int .i64 f2, .int .i64 f3, .string f4, .slice A5 n5 c5, .int .i64 f6_0, .int .i64 f6_1, .int .i64 f7, .int .i64 f8_0, .int .i64 f8_1, .int .i64 f8_2]) (by repeat (first | exact List.mem_cons_self | refine List.mem_cons_of_mem _ ?_)) rfl
        have x6 := X.out.at_ (g := w.heap.size) (i := 6) (v := .int .i64 f6_0) (cs := [.int .i64 2, .int .i64 f1, .int .i64 f2, .int .i64 f3, .string f4, .slice A5 n5 c5, .int .i64 f6_0, .int .i64 f6_1, .int .i64 f7, .int .i64 f8_0, .int .i64 f8_1, .int .i64 f8_2]) (by repeat (first | exact List.mem_cons_self | refine List.mem_cons_of_mem _ ?_)) rfl
        have x7 := X.out.at_ (g := w.heap.size) (i := 7) (v := .int .i64 f6_1) (cs := [.int .i64 2, .int .i64 f1, .int .i64 f2, .int .i64 f3, .string f4, .slice A5 n5 c5, .int .i64 f6_0, .int .i64 f6_1, .int .i64 f7, .int .i64 f8_0, .int .i64 f8_1, .int .i64 f8_2]) (by repeat (first | exact List.mem_cons_self | refine List.mem_cons_of_mem _ ?_)) rfl
        have x8 := X.out.at_ (g := w.heap.size) (i := 8) (v := .int .i64 f7) (cs := [.int .i64 2, .int .i64 f1, .int .i64 f2, .int .i64 f3, .string f4, .slice A5 n5 c5, .int .i64 f6_0, .int .i64 f6_1, .int .i64 f7, .int .i64 f8_0, .int .i64 f8_1, .int .i64 f8_2]) (by repeat (first | exact List.mem_cons_self | refine List.mem_cons_of_mem _ ?_)) rfl
        have x9 := X.out.at_ (g := w.heap.size) (i := 9) (v := .int .i64 f8_0) (cs := [.int .i64 2, .int .i64 f1, .int .i64 f2, .int .i64 f3, .string f4, .slice A5 n5 c5, .int .i64 f6_0, .int .i64 f6_1, .int .i64 f7, .int .i64 f8_0, .int .i64 f8_1, .int .i64 f8_2]) (by repeat (first | exact List.mem_cons_self | refine List.mem_cons_of_mem _ ?_)) rfl
        have x10 := X.out.at_ (g := w.heap.size) (i := 10) (v := .int .i64 f8_1) (cs := [.int .i64 2, .int .i64 f1, .int .i64 f2, .int .i64 f3, .string f4, .slice A5 n5 c5, .int .i64 f6_0, .int .i64 f6_1, .int .i64 f7, .int .i64 f8_0, .int .i64 f8_1, .int .i64 f8_2]) (by repeat (first | exact List.mem_cons_self | refine List.mem_cons_of_mem _ ?_)) rfl
        have x11 := X.out.at_ (g := w.heap.size) (i := 11) (v := .int .i64 f8_2) (cs := [.int .i64 2, .int .i64 f1, .int .i64 f2, .int .i64 f3, .string f4, .slice A5 n5 c5, .int .i64 f6_0, .int .i64 f6_1, .int .i64 f7, .int .i64 f8_0, .int .i64 f8_1, .int .i64 f8_2]) (by repeat (first | exact List.mem_cons_self | refine List.mem_cons_of_mem _ ?_)) rfl
        have y0 := X.out.at_ (g := w.heap.size + 1) (i := 0) (v := .int .i64 0) (cs := [.int .i64 0, .int .i64 0]) (by repeat (first | exact List.mem_cons_self | refine List.mem_cons_of_mem _ ?_)) rfl
        have y1 := X.out.at_ (g := w.heap.size + 1) (i := 1) (v := .int .i64 0) (cs := [.int .i64 0, .int .i64 0]) (by repeat (first | exact List.mem_cons_self | refine List.mem_cons_of_mem _ ?_)) rfl
        rcases h6 : wireB f6_0 f6_1 with _ | _
        · have H6 : Hid ((wireB f6_0 f6_1) = false) := Lib.hid h6
          clear h6
          have HN : Hid (false = V) := Lib.hid (by rw [← HV.out]; simp [msgB, zz, HCM.out, H3.out, H6.out])
          go_wp2_with fail
          go_ret
          exact GivesBool.of HN.out X.out.1
        · have H6 : Hid ((wireB f6_0 f6_1) = true) := Lib.hid h6
          clear h6
          by_cases ef1 : f1 = 0
          · subst ef1
            by_cases ef7 : f7 = 0
            · subst ef7
              have HN : Hid (true = V) := Lib.hid (by rw [← HV.out]; simp [msgB, zz, HCM.out, H3.out, H6.out])
              go_wp2_with fail
              go_ret
              exact GivesBool.of HN.out X.out.1
            · have bf7 : (f7 == 0) = false := by simpa using ef7
              have df7 : (0 == f7) = false := by simpa using fun h => ef7 h.symm
              have HN : Hid (false = V) := Lib.hid (by rw [← HV.out]; simp [msgB, zz, HCM.out, H3.out, H6.out, ef7])
              go_wp2_with fail
              go_ret
              exact GivesBool.of HN.out X.out.1
          · have bf1 : (f1 == 0) = false := by simpa using ef1
            have df1 : (0 == f1) = false := by simpa using fun h => ef1 h.symm
            have HN : Hid (false = V) := Lib.hid (by rw [← HV.out]; simp [msgB, zz, HCM.out, H3.out, H6.out, ef1])
            go_wp2_with fail
            go_ret
            exact GivesBool.of HN.out X.out.1
  have kb2 : (f0 == 2) = false := by simpa using k2
  by_cases k3 : f0 = 3
  · subst k3
    cases cm with
    | false =>
      have HN : Hid (false = V) := Lib.hid (by rw [← HV.out]; simp [msgB, zz, HCM.out])
      go_wp2_with fail
      go_ret
      exact GivesBool.of HN.out X.out.1
    | true =>
      go_wp2_with fail
      refine (specOne f3 _).mono ?_
      rintro e w9 ⟨rfl, rfl⟩
      rcases h3 : oneB f3 with _ | _
      · have H3 : Hid ((oneB f3) = false) := Lib.hid h3
        clear h3
        have HN : Hid (false = V) := Lib.hid (by rw [← HV.out]; simp [msgB, zz, HCM.out, H3.out])
        go_wp2_with fail
        go_ret
        exact GivesBool.of HN.out X.out.1
      · have H3 : Hid ((oneB f3) = true) := Lib.hid h3
        clear h3
        by_cases ef6_0 : f6_0 = 0
        · subst ef6_0
          by_cases ef6_1 : f6_1 = 0
          · subst ef6_1
            by_cases ef1 : f1 = 0
            · subst ef1
              by_cases ef7 : f7 = 0
              · subst ef7
                have HN : Hid (true = V) := Lib.hid (by rw [← HV.out]; simp [msgB, zz, HCM.out, H3.out])
                go_wp2_with fail
                go_ret
                exact GivesBool.of HN.out X.out.1
              · have bf7 : (f7 == 0) = false := by simpa using ef7
                have df7 : (0 == f7) = false := by simpa using fun h => ef7 h.symm
                have HN : Hid (false = V) := Lib.hid (by rw [← HV.out]; simp [msgB, zz, HCM.out, H3.out, ef7])
                go_wp2_with fail
                go_ret
                exact GivesBool.of HN.out X.out.1
            · have bf1 : (f1 == 0) = false := by simpa using ef1
              have df1 : (0 == f1) = false := by simpa using fun h => ef1 h.symm
              have HN : Hid (false = V) := Lib.hid (by rw [← HV.out]; simp [msgB, zz, HCM.out, H3.out, ef1])
              go_wp2_with fail
              go_ret
              exact GivesBool.of HN.out X.out.1
          · have bf6_1 : (f6_1 == 0) = false := by simpa using ef6_1
            have df6_1 : (0 == f6_1) = false := by simpa using fun h => ef6_1 h.symm
            have HN : Hid (false = V) := Lib.hid (by rw [← HV.out]; simp [msgB, zz, HCM.out, H3.out, ef6_1])
            go_wp2_with fail
            go_ret
            exact GivesBool.of HN.out X.out.1
        · have bf6_0 : (f6_0 == 0) = false := by simpa using ef6_0
          have df6_0 : (0 == f6_0) = false := by simpa using fun h => ef6_0 h.symm
          have HN : Hid (false = V) := Lib.hid (by rw [← HV.out]; simp [msgB, zz, HCM.out, H3.out, ef6_0])
          go_wp2_with fail
          go_ret
          exact GivesBool.of HN.out X.out.1
  have kb3 : (f0 == 3) = false := by simpa using k3
  by_cases k4 : f0 = 4
  · subst k4
    cases cm with
    | false =>
      have HN : Hid (false = V) := Lib.hid (by rw [← HV.out]; simp [msgB, zz, HCM.out])
      go_wp2_with fail
      go_ret
      exact GivesBool.of HN.out X.out.1
    | true =>
      go_wp2_with fail
      refine (specOne f3 _).mono ?_
      rintro e w9 ⟨rfl, rfl⟩
      rcases h3 : oneB f3 with _ | _
      · have H3 : Hid ((oneB f3) = false) := Lib.hid h3
        clear h3
        have HN : Hid (false = V) := Lib.hid (by rw [← HV.out]; simp [msgB, zz, HCM.out, H3.out])
        go_wp2_with fail
        go_ret
        exact GivesBool.of HN.out X.out.1
      · have H3 : Hid ((oneB f3) = true) := Lib.hid h3
        clear h3
        by_cases ef6_0 : f6_0 = 0
        · subst ef6_0
          by_cases ef6_1 : f6_1 = 0
          · subst ef6_1
            by_cases ef1 : f1 = 0
            · subst ef1
              by_cases ef7 : f7 = 0
              · subst ef7
                have HN : Hid (true = V) := Lib.hid (by rw [← HV.out]; simp [msgB, zz, HCM.out, H3.out])
                go_wp2_with fail
                go_ret
                exact GivesBool.of HN.out X.out.1
              · have bf7 : (f7 == 0) = false := by simpa using ef7
                have df7 : (0 == f7) = false := by simpa using fun h => ef7 h.symm
                have HN : Hid (false = V) := Lib.hid (by rw [← HV.out]; simp [msgB, zz, HCM.out, H3.out, ef7])
                go_wp2_with fail
                go_ret
                exact GivesBool.of HN.out X.out.1
            · have bf1 : (f1 == 0) = false := by simpa using ef1
              have df1 : (0 == f1) = false := by simpa using fun h => ef1 h.symm
              have HN : Hid (false = V) := Lib.hid (by rw [← HV.out]; simp [msgB, zz, HCM.out, H3.out, ef1])
              go_wp2_with fail
              go_ret
              exact GivesBool.of HN.out X.out.1
          · have bf6_1 : (f6_1 == 0) = false := by simpa using ef6_1
            have df6_1 : (0 == f6_1) = false := by simpa using fun h => ef6_1 h.symm
            have HN : Hid (false = V) := Lib.hid (by rw [← HV.out]; simp [msgB, zz, HCM.out, H3.out, ef6_1])
            go_wp2_with fail
            go_ret
            exact GivesBool.of HN.out X.out.1
        · have bf6_0 : (f6_0 == 0) = false := by simpa using ef6_0
          have df6_0 : (0 == f6_0) = false := by simpa using fun h => ef6_0 h.symm
          have HN : Hid (false = V) := Lib.hid (by rw [← HV.out]; simp [msgB, zz, HCM.out, H3.out, ef6_0])
          go_wp2_with fail
          go_ret
          exact GivesBool.of HN.out X.out.1
  have kb4 : (f0 == 4) = false := by simpa using k4
  by_cases k5 : f0 = 5
  · subst k5
    cases cm with
    | false =>
      have HN : Hid (false = V) := Lib.hid (by rw [← HV.out]; simp [msgB, zz, HCM.out])
      go_wp2_with fail
      go_ret
      exact GivesBool.of HN.out X.out.1
    | true =>
      go_wp2_with fail
      refine (specOne f3 _).mono ?_
      rintro e w9 ⟨rfl, rfl⟩
      rcases h3 : oneB f3 with _ | _
      · have H3 : Hid ((oneB f3) = false) := Lib.hid h3
        clear h3
        have HN : Hid (false = V) := Lib.hid (by rw [← HV.out]; simp [msgB, zz, HCM.out, H3.out])
        go_wp2_with fail
        go_ret
        exact GivesBool.of HN.out X.out.1
      · have H3 : Hid ((oneB f3) = true) := Lib.hid h3
        clear h3
        by_cases ef6_0 : f6_0 = 0
        · subst ef6_0
          by_cases ef6_1 : f6_1 = 0
          · subst ef6_1
            by_cases ef1 : f1 = 0
            · subst ef1
              by_cases ef7 : f7 = 0
              · subst ef7
                have HN : Hid (true = V) := Lib.hid (by rw [← HV.out]; simp [msgB, zz, HCM.out, H3.out])
                go_wp2_with fail
                go_ret
                exact GivesBool.of HN.out X.out.1
              · have bf7 : (f7 == 0) = false := by simpa using ef7
                have df7 : (0 == f7) = false := by simpa using fun h => ef7 h.symm
                have HN : Hid (false = V) := Lib.hid (by rw [← HV.out]; simp [msgB, zz, HCM.out, H3.out, ef7])
                go_wp2_with fail
                go_ret
                exact GivesBool.of HN.out X.out.1
            · have bf1 : (f1 == 0) = false := by simpa using ef1
              have df1 : (0 == f1) = false := by simpa using fun h => ef1 h.symm
              have HN : Hid (false = V) := Lib.hid (by rw [← HV.out]; simp [msgB, zz, HCM.out, H3.out, ef1])
              go_wp2_with fail
              go_ret
              exact GivesBool.of HN.out X.out.1
          · have bf6_1 : (f6_1 == 0) = false := by simpa using ef6_1
            have df6_1 : (0 == f6_1) = false := by simpa using fun h => ef6_1 h.symm
            have HN : Hid (false = V) := Lib.hid (by rw [← HV.out]; simp [msgB, zz, HCM.out, H3.out, ef6_1])
            go_wp2_with fail
            go_ret
            exact GivesBool.of HN.out X.out.1
        · have bf6_0 : (f6_0 == 0) = false := by simpa using ef6_0
          have df6_0 : (0 == f6_0) = false := by simpa using fun h => ef6_0 h.symm
          have HN : Hid (false = V) := Lib.hid (by rw [← HV.out]; simp [msgB, zz, HCM.out, H3.out, ef6_0])
          go_wp2_with fail
          go_ret
          exact GivesBool.of HN.out X.out.1
  have kb5 : (f0 == 5) = false := by simpa using k5
  by_cases k6 : f0 = 6
  · subst k6
    cases cm with
    | false =>
      have HN : Hid (false = V) := Lib.hid (by rw [← HV.out]; simp [msgB, zz, HCM.out])
      go_wp2_with fail
      go_ret
      exact GivesBool.of HN.out X.out.1
    | true =>
      by_cases ef3 : f3 = 0
      · subst ef3
        by_cases ef6_0 : f6_0 = 0
        · subst ef6_0
          by_cases ef6_1 : f6_1 = 0
          · subst ef6_1
            go_wp2_with fail
            refine (specOne f1 _).mono ?_
            rintro e w9 ⟨rfl, rfl⟩
            rcases h1 : oneB f1 with _ | _
            · have H1 : Hid ((oneB f1) = false) := Lib.hid h1
              clear h1
              have HN : Hid (false = V) := Lib.hid (by rw [← HV.out]; simp [msgB, zz, HCM.out, H1.out])
              go_wp2_with fail
              go_ret
              exact GivesBool.of HN.out X.out.1
            · have H1 : Hid ((oneB f1) = true) := Lib.hid h1
              clear h1
              go_wp2_with fail
              refine (specOne f7 _).mono ?_
              rintro e w9 ⟨rfl, rfl⟩
              rcases h7 : oneB f7 with _ | _
              · have H7 : Hid ((oneB f7) = false) := Lib.hid h7
                clear h7
                have HN : Hid (false = V) := Lib.hid (by rw [← HV.out]; simp [msgB, zz, HCM.out, H1.out, H7.out])
                go_wp2_with fail
                go_ret
                exact GivesBool.of HN.out X.out.1
              · have H7 : Hid ((oneB f7) = true) := Lib.hid h7
                clear h7
                have HN : Hid (true = V) := Lib.hid (by rw [← HV.out]; simp [msgB, zz, HCM.out, H1.out, H7.out])
                go_wp2_with fail
                go_ret
                exact GivesBool.of HN.out X.out.1
          · have bf6_1 : (f6_1 == 0) = false := by simpa using ef6_1
            have df6_1 : (0 == f6_1) = false := by simpa using fun h => ef6_1 h.symm
            have HN : Hid (false = V) := Lib.hid (by rw [← HV.out]; simp [msgB, zz, HCM.out, ef6_1])
            go_wp2_with fail
            go_ret
            exact GivesBool.of HN.out X.out.1
        · have bf6_0 : (f6_0 == 0) = false := by simpa using ef6_0
          have df6_0 : (0 == f6_0) = false := by simpa using fun h => ef6_0 h.symm
          have HN : Hid (false = V) := Lib.hid (by rw [← HV.out]; simp [msgB, zz, HCM.out, ef6_0])
          go_wp2_with fail
          go_ret
          exact GivesBool.of HN.out X.out.1
      · have bf3 : (f3 == 0) = false := by simpa using ef3
        have df3 : (0 == f3) = false := by simpa using fun h => ef3 h.symm
        have HN : Hid (false = V) := Lib.hid (by rw [← HV.out]; simp [msgB, zz, HCM.out, ef3])
        go_wp2_with fail
        go_ret
        exact GivesBool.of HN.out X.out.1
  have kb6 : (f0 == 6) = false := by simpa using k6
  have HN : Hid (false = V) := Lib.hid (by rw [← HV.out]; simp [msgB, k1, k2, k3, k4, k5, k6])
  go_wp2_with fail
  go_ret
  exact GivesBool.of HN.out X.out.1
end Go.Proofs.Ytchofnligbgigaa
