/- Exact laws of chapter 8: IsSafe. -/
import Derived.Test.YtgibhbplgiejpaaTyA
import Derived.Test.YtgibhbplgiejpaaSafe
import Derived.Deep.RegionHeld3
namespace Go.Proofs.Ytgibhbplgiejpaa
open Go.RowKit
set_option linter.unusedVariables false
set_option linter.unusedSimpArgs false
set_option maxRecDepth 100000 in
set_option maxHeartbeats 8000000 in
theorem law_IsSafe (f0 : ByteArray) (L0 : List Dat) (A0 : Option Addr) (n0 c0 : Nat) (W : World) (hl0 : Lies W (.l L0) [.slice A0 n0 c0]) (ht0 : ∀ x ∈ L0, Has tyInstr x) (hf0 : f0.size ≤ 9223372036854775807) (hn0 : n0 ≤ 9223372036854775807) :
    Calls Try.prog 5 #[.agg #[.string f0, .slice A0 n0 c0]] W (GivesBool true W) := by
  have X := Lib.hid (((St.start W).lie hl0).push #[.string f0, .slice A0 n0 c0] 24)
  have hc0 := Lib.hid hl0.count
  clear hl0
  obtain ⟨v, hv⟩ : ∃ v, safeD (.r [.s f0, .l L0]) = v := ⟨_, rfl⟩
  have HV := Lib.hid hv
  clear hv
  rcases leftD_cases (Dat.r [.s f0, .l L0]) 1048576 with hbig | ⟨r0, hr0, hr00, hr10, hb0⟩
  case inl =>
    have HBIG := Lib.hid hbig
    clear hbig
    go_enter Try.func5, Try.ntmps5
    obtain ⟨z0, y0⟩ := X.out.two (g := W.heap.size) (x := .string f0) (y := .slice A0 n0 c0) (by repeat (first | exact List.mem_cons_self | refine List.mem_cons_of_mem _ ?_))
    go_wp2_with fail
    refine (szMethod f0 L0 A0 n0 c0 (1048576) _ (by omega) (by omega) hf0 (X.out.lies (d := .l L0) (cs := [.slice A0 n0 c0]) (by repeat (first | exact List.mem_cons_self | refine List.mem_cons_of_mem _ ?_))) ht0 hn0).mono ?_
    rintro e w1 ⟨rfl, hb⟩
    rw [HBIG.out]
    replace X := Lib.hid (X.out.below hb)
    clear hb
    clear z0 y0
    go_wp2_with fail
    go_ret
    exact GivesBool.ret X.out.low
  case inr =>
    have HR0 := Lib.hid hr0
    clear hr0
    have hq0 : (Dat.l L0).bulk ≤ 1099511627776 := by simp only [Dat.bulk, bulkAll] at hb0 ⊢; omega
    have hqr0 : (Dat.r [.s f0, .l L0]).bulk ≤ 1099511627776 := by omega
    go_enter Try.func5, Try.ntmps5
    obtain ⟨z0, y0⟩ := X.out.two (g := W.heap.size) (x := .string f0) (y := .slice A0 n0 c0) (by repeat (first | exact List.mem_cons_self | refine List.mem_cons_of_mem _ ?_))
    go_wp2_with fail
    refine (szMethod f0 L0 A0 n0 c0 (1048576) _ (by omega) (by omega) hf0 (X.out.lies (d := .l L0) (cs := [.slice A0 n0 c0]) (by repeat (first | exact List.mem_cons_self | refine List.mem_cons_of_mem _ ?_))) ht0 hn0).mono ?_
    rintro e w1 ⟨rfl, hb⟩
    rw [HR0.out]
    replace X := Lib.hid (X.out.below hb)
    clear hb
    clear z0 y0
    obtain ⟨z0, y0⟩ := X.out.two (g := W.heap.size) (x := .string f0) (y := .slice A0 n0 c0) (by repeat (first | exact List.mem_cons_self | refine List.mem_cons_of_mem _ ?_))
    go_wp2_with fail
    refine (toMethod f0 L0 A0 n0 c0 _ (X.out.lies (d := .l L0) (cs := [.slice A0 n0 c0]) (by repeat (first | exact List.mem_cons_self | refine List.mem_cons_of_mem _ ?_))) ht0 hq0).mono ?_
    rintro e w2 ⟨Bt0, kt0, rfl, hO, hb⟩
    replace X := Lib.hid ((X.out.below hb).lie hO.lies)
    clear hO hb z0 y0
    go_wp2_with fail
    refine (specSafe f0 L0 Bt0 n0 kt0 _ (X.out.lies (d := .l L0) (cs := [.slice Bt0 n0 kt0]) (by repeat (first | exact List.mem_cons_self | refine List.mem_cons_of_mem _ ?_))) ht0 hqr0).mono ?_
    rintro e w3 ⟨rfl, hb⟩
    rw [HV.out]
    replace X := Lib.hid (X.out.below hb)
    clear hb
    obtain ⟨z0, y0⟩ := X.out.two (g := W.heap.size) (x := .string f0) (y := .slice A0 n0 c0) (by repeat (first | exact List.mem_cons_self | refine List.mem_cons_of_mem _ ?_))
    go_wp2_with fail
    refine (toMethod f0 L0 A0 n0 c0 _ (X.out.lies (d := .l L0) (cs := [.slice A0 n0 c0]) (by repeat (first | exact List.mem_cons_self | refine List.mem_cons_of_mem _ ?_))) ht0 hq0).mono ?_
    rintro e w4 ⟨Bx0, kx0, rfl, hO, hb⟩
    replace X := Lib.hid ((X.out.below hb).lie hO.lies)
    clear hO hb z0 y0
    replace X := Lib.hid (X.out.push #[.string f0, .slice Bx0 n0 kx0] 29)
    obtain ⟨p0, q0⟩ := X.out.two (g := w4.heap.size) (x := .string f0) (y := .slice Bx0 n0 kx0) (by repeat (first | exact List.mem_cons_self | refine List.mem_cons_of_mem _ ?_))
    go_wp2_with fail
    refine (implSafe f0 L0 Bx0 n0 kx0 _ (X.out.lies (d := .l L0) (cs := [.slice Bx0 n0 kx0]) (by repeat (first | exact List.mem_cons_self | refine List.mem_cons_of_mem _ ?_))) ht0 hqr0).mono ?_
    rintro e w5 ⟨rfl, hb⟩
    rw [HV.out]
    replace X := Lib.hid (X.out.below hb)
    clear hb
    clear p0 q0
    obtain ⟨p0, q0⟩ := X.out.two (g := w4.heap.size) (x := .string f0) (y := .slice Bx0 n0 kx0) (by repeat (first | exact List.mem_cons_self | refine List.mem_cons_of_mem _ ?_))
    obtain ⟨z0, y0⟩ := X.out.two (g := W.heap.size) (x := .string f0) (y := .slice A0 n0 c0) (by repeat (first | exact List.mem_cons_self | refine List.mem_cons_of_mem _ ?_))
    go_wp2_with fail
    replace X := Lib.hid X.out.drew
    go_region_held3 (fun w' => w'.cell? ⟨w4.heap.size, 0, none⟩ = some (.string f0) ∧ w'.cell? ⟨w4.heap.size, 1, none⟩ = some (.slice Bx0 n0 kx0) ∧ w'.cell? ⟨W.heap.size, 0, none⟩ = some (.string f0) ∧ w'.cell? ⟨W.heap.size, 1, none⟩ = some (.slice A0 n0 c0))
      (first | with_reducible exact ⟨(X.out.two (g := w4.heap.size) (x := .string f0) (y := .slice Bx0 n0 kx0) (by repeat (first | exact List.mem_cons_self | refine List.mem_cons_of_mem _ ?_))).1, (X.out.two (g := w4.heap.size) (x := .string f0) (y := .slice Bx0 n0 kx0) (by repeat (first | exact List.mem_cons_self | refine List.mem_cons_of_mem _ ?_))).2, (X.out.two (g := W.heap.size) (x := .string f0) (y := .slice A0 n0 c0) (by repeat (first | exact List.mem_cons_self | refine List.mem_cons_of_mem _ ?_))).1, (X.out.two (g := W.heap.size) (x := .string f0) (y := .slice A0 n0 c0) (by repeat (first | exact List.mem_cons_self | refine List.mem_cons_of_mem _ ?_))).2⟩ | go_keep)
      (first
      | (go_at_call 10; (with_reducible refine (toMethod f0 L0 A0 n0 c0 _ (X.out.lies (d := .l L0) (cs := [.slice A0 n0 c0]) (by repeat (first | exact List.mem_cons_self | refine List.mem_cons_of_mem _ ?_))) ht0 hq0).mono ?_); rintro e v0 ⟨Bu0, ku0, rfl, hO, hb5⟩; replace X := Lib.hid ((X.out.below hb5).lie hO.lies); clear hO hb5)
      | (go_at_call 12; (with_reducible refine (eqMethod f0 L0 Bx0 n0 kx0 Bu0 ku0 _ (X.out.lies (d := .l L0) (cs := [.slice Bx0 n0 kx0]) (by repeat (first | exact List.mem_cons_self | refine List.mem_cons_of_mem _ ?_))) (X.out.lies (d := .l L0) (cs := [.slice Bu0 n0 ku0]) (by repeat (first | exact List.mem_cons_self | refine List.mem_cons_of_mem _ ?_))) ht0 hn0).mono ?_); rintro e vv0 ⟨rfl, hb5⟩; replace X := Lib.hid (X.out.below hb5); clear hb5))
    all_goals (
      try clear p0 q0 z0 y0
      go_wp2_with fail
      go_ret
      exact GivesBool.ret X.out.low)
end Go.Proofs.Ytgibhbplgiejpaa
