/- Chapter 12: vats. -/
import Derived.Test.YtmeacgpebpfpbaaGreatMzVatV
import Derived.LoopTactic
import Derived.Lib.Hide
import Derived.Deep.QuietTactic
import Derived.BigQuiet
import Derived.Deep.RegionWith
import Derived.Handy
namespace Go.Proofs.YtmeacgpebpfpbaaGreat
open Go.RowKit
set_option linter.unusedVariables false
set_option linter.unusedSimpArgs false
set_option maxHeartbeats 4000000 in
theorem specIsUp (f0 : Int) (L1 : List Dat) (A1 : Option Addr) (n1 c1 : Nat) (L2 : List Dat) (A2 : Option Addr) (n2 c2 : Nat) (L3 : List Dat) (A3 : Option Addr) (n3 c3 : Nat) (L4 : List Dat) (A4 : Option Addr) (n4 c4 : Nat) (x : Int) (w : World) (hl3 : Lies w (.l L3) [.slice A3 n3 c3]) (ht3 : ∀ x ∈ L3, Has tyLink x) (hn3 : n3 ≤ 1099511627776) :
    Calls Tryz.prog 21 #[.agg #[.int .i64 f0, .slice A1 n1 c1, .slice A2 n2 c2, .slice A3 n3 c3, .slice A4 n4 c4], .int .i64 x] w (GivesBool (L3.any (upIs x)) w) := by
  have X := Lib.hid ((Held.start w).push #[.int .i64 f0, .slice A1 n1 c1, .slice A2 n2 c2, .slice A3 n3 c3, .slice A4 n4 c4] 42)
  have H := Lib.hid hl3
  have HC := Lib.hid hl3.count
  have HT := Lib.hid ht3
  clear hl3 ht3
  go_enter Tryz.func21, Tryz.ntmps21
  go_wp2_with fail
  go_loopw [5] (fun iv wr => ∃ i : Nat, i ≤ n3 ∧ iv = .int .i64 i ∧ (∀ (j : Nat) (e : Dat), j < i → L3[j]? = some e → upIs x e = false) ∧ Held w [(w.heap.size, [.int .i64 f0, .slice A1 n1 c1, .slice A2 n2 c2, .slice A3 n3 c3, .slice A4 n4 c4])] wr) (fun iv _ => n3 - (intOf iv).toNat)
  case atStart => exact ⟨0, Nat.zero_le _, rfl, fun j e hj => by omega, X.out⟩
  case round =>
    obtain ⟨i, hin, rfl, hno, hX⟩ := hrel
    have HNO := Lib.hid hno
    clear X
    have X := Lib.hid hX
    clear hno hX
    by_cases hlt : i < n3
    · obtain ⟨b', off, d, xs, rfl, hbw, hzi, hlie, hlen, hcell⟩ := (H.out.below X.out.1).elem (fun x hx => (HT.out x hx).width) hlt
      obtain ⟨g0, g1, M2, B2, m2, k2, g3, M4, B4, m4, k4, g5, M6, B6, m6, k6, hd, rfl, -, -, -, -, -, -, -, -, -⟩ := invLink (HT.out d (List.mem_of_getElem? hzi)) hlie
      have r0 : wr.cell? ⟨b', off + i * 7, none⟩ = some (.int .i64 g0) := hcell 0 _ rfl
      have r1 : wr.cell? ⟨b', off + i * 7 + 1, none⟩ = some (.bool g1) := hcell 1 _ rfl
      have HZ := Lib.hid hzi
      have HD := Lib.hid hd
      clear hzi hcell hlie hd
      have z0 := X.out.at_ (g := w.heap.size) (i := 0) (v := .int .i64 f0) (cs := [.int .i64 f0, .slice A1 n1 c1, .slice A2 n2 c2, .slice (some ⟨b', off, none⟩) n3 c3, .slice A4 n4 c4]) (by repeat (first | exact List.mem_cons_self | refine List.mem_cons_of_mem _ ?_)) rfl
      have z1 := X.out.at_ (g := w.heap.size) (i := 1) (v := .slice A1 n1 c1) (cs := [.int .i64 f0, .slice A1 n1 c1, .slice A2 n2 c2, .slice (some ⟨b', off, none⟩) n3 c3, .slice A4 n4 c4]) (by repeat (first | exact List.mem_cons_self | refine List.mem_cons_of_mem _ ?_)) rfl
      have z2 := X.out.at_ (g := w.heap.size) (i := 2) (v := .slice A2 n2 c2) (cs := [.int .i64 f0, .slice A1 n1 c1, .slice A2 n2 c2, .slice (some ⟨b', off, none⟩) n3 c3, .slice A4 n4 c4]) (by repeat (first | exact List.mem_cons_self | refine List.mem_cons_of_mem _ ?_)) rfl
      have z3 := X.out.at_ (g := w.heap.size) (i := 3) (v := .slice (some ⟨b', off, none⟩) n3 c3) (cs := [.int .i64 f0, .slice A1 n1 c1, .slice A2 n2 c2, .slice (some ⟨b', off, none⟩) n3 c3, .slice A4 n4 c4]) (by repeat (first | exact List.mem_cons_self | refine List.mem_cons_of_mem _ ?_)) rfl
      have z4 := X.out.at_ (g := w.heap.size) (i := 4) (v := .slice A4 n4 c4) (cs := [.int .i64 f0, .slice A1 n1 c1, .slice A2 n2 c2, .slice (some ⟨b', off, none⟩) n3 c3, .slice A4 n4 c4]) (by repeat (first | exact List.mem_cons_self | refine List.mem_cons_of_mem _ ?_)) rfl
      by_cases e : g0 = x
      · cases hu : g1 with
        | true =>
          subst hu
          have HF : Hid (true = L3.any (upIs x)) := Lib.hid (any_at HZ.out (by rw [HD.out]; simp [upIs, e]))
          subst e
          go_wp2_with fail
          go_ret
          exact GivesBool.of HF.out X.out.1
        | false =>
          subst hu
          go_wp2_with fail
          go_roundw
          case rel => exact ⟨i + 1, by omega, by go_num, no_next HNO.out HZ.out (by rw [HD.out]; simp [upIs]), X.out⟩
          case measure => simp [intOf]; omega
      · have e1 : (g0 == x) = false := by simpa using e
        go_wp2_with fail
        go_roundw
        case rel => exact ⟨i + 1, by omega, by go_num, no_next HNO.out HZ.out (by rw [HD.out]; simp [upIs, e]), X.out⟩
        case measure => simp [intOf]; omega
    · obtain rfl : i = n3 := by omega
      have HF : Hid (false = L3.any (upIs x)) := Lib.hid (any_no HC.out HNO.out)
      have z3 := X.out.at_ (g := w.heap.size) (i := 3) (v := .slice A3 i c3) (cs := [.int .i64 f0, .slice A1 n1 c1, .slice A2 n2 c2, .slice A3 i c3, .slice A4 n4 c4]) (by repeat (first | exact List.mem_cons_self | refine List.mem_cons_of_mem _ ?_)) rfl
      go_wp2_with fail
      go_ret
      exact GivesBool.of HF.out X.out.1
end Go.Proofs.YtmeacgpebpfpbaaGreat
