/- Exact laws of chapter 6: EqualScripts. -/
import Derived.Test.YtaepconmjmcbdaaLawD
import Derived.Test.YtaepconmjmcbdaaEqS
import Derived.Test.YtaepconmjmcbdaaEqR
import Derived.Deep.RegionHeld3
namespace Go.Proofs.Ytaepconmjmcbdaa
open Go.RowKit
set_option linter.unusedVariables false
set_option linter.unusedSimpArgs false
set_option maxRecDepth 100000 in
set_option maxHeartbeats 8000000 in
theorem law_EqualScripts (f0 : ByteArray) (L0 : List Dat) (A0 : Option Addr) (n0 c0 : Nat) (f1 : ByteArray) (L1 : List Dat) (A1 : Option Addr) (n1 c1 : Nat) (W : World) (hl0 : Lies W (.l L0) [.slice A0 n0 c0]) (ht0 : ∀ x ∈ L0, Has tyMethod x) (hf0 : f0.size ≤ 9223372036854775807) (hn0 : n0 ≤ 9223372036854775807) (hl1 : Lies W (.l L1) [.slice A1 n1 c1]) (ht1 : ∀ x ∈ L1, Has tyMethod x) (hf1 : f1.size ≤ 9223372036854775807) (hn1 : n1 ≤ 9223372036854775807) :
    Calls Try.prog 10 #[.agg #[.string f0, .slice A0 n0 c0], .agg #[.string f1, .slice A1 n1 c1]] W (GivesBool true W) := by
  have X := (((((St.start W).lie hl0).lie hl1).push #[.string f0, .slice A0 n0 c0] 51).push #[.string f1, .slice A1 n1 c1] 51)
  simp only [World.size_alloc] at X
  replace X := Lib.hid X
  have hc0 := Lib.hid hl0.count
  clear hl0
  have hc1 := Lib.hid hl1.count
  clear hl1
  obtain ⟨v, hv⟩ : ∃ v, eqScrD (.r [.s f0, .l L0]) (.r [.s f1, .l L1]) = v := ⟨_, rfl⟩
  have HV := Lib.hid hv
  clear hv
  rcases leftD_cases (Dat.r [.s f0, .l L0]) 1048576 with hbig | ⟨r0, hr0, hr00, hr10, hb0⟩
  case inl =>
    have HBIG := Lib.hid hbig
    clear hbig
    go_enter Try.func10, Try.ntmps10
    obtain ⟨z0, y0⟩ := X.out.two (g := W.heap.size) (x := .string f0) (y := .slice A0 n0 c0) (by repeat (first | exact List.mem_cons_self | refine List.mem_cons_of_mem _ ?_))
    go_wp2_with fail
    refine (szScript f0 L0 A0 n0 c0 (1048576) _ (by omega) (by omega) hf0 (X.out.lies (d := .l L0) (cs := [.slice A0 n0 c0]) (by repeat (first | exact List.mem_cons_self | refine List.mem_cons_of_mem _ ?_))) ht0 hn0).mono ?_
    rintro e w1 ⟨rfl, hb⟩
    rw [HBIG.out]
    replace X := Lib.hid (X.out.below hb)
    clear hb
    clear z0 y0
    go_wp2_with fail
    go_ret
    exact GivesBool.ret X.out.low
  case inr =>
    have HR0 := Lib.hid hr0
    clear hr0
    have hq0 : (Dat.l L0).bulk ≤ 1099511627776 := by simp only [Dat.bulk, bulkAll] at hb0 ⊢; omega
    have hqr0 : (Dat.r [.s f0, .l L0]).bulk ≤ 1099511627776 := by omega
    rcases leftD_cases (Dat.r [.s f1, .l L1]) r0 with hbig | ⟨r1, hr1, hr01, hr11, hb1⟩
    case inl =>
      have HBIG := Lib.hid hbig
      clear hbig
      go_enter Try.func10, Try.ntmps10
      obtain ⟨z0, y0⟩ := X.out.two (g := W.heap.size) (x := .string f0) (y := .slice A0 n0 c0) (by repeat (first | exact List.mem_cons_self | refine List.mem_cons_of_mem _ ?_))
      go_wp2_with fail
      refine (szScript f0 L0 A0 n0 c0 (1048576) _ (by omega) (by omega) hf0 (X.out.lies (d := .l L0) (cs := [.slice A0 n0 c0]) (by repeat (first | exact List.mem_cons_self | refine List.mem_cons_of_mem _ ?_))) ht0 hn0).mono ?_
      rintro e w1 ⟨rfl, hb⟩
      rw [HR0.out]
      replace X := Lib.hid (X.out.below hb)
      clear hb
      clear z0 y0
      obtain ⟨z0, y0⟩ := X.out.two (g := W.heap.size + 1) (x := .string f1) (y := .slice A1 n1 c1) (by repeat (first | exact List.mem_cons_self | refine List.mem_cons_of_mem _ ?_))
      go_wp2_with fail
      refine (szScript f1 L1 A1 n1 c1 (r0) _ (by omega) (by omega) hf1 (X.out.lies (d := .l L1) (cs := [.slice A1 n1 c1]) (by repeat (first | exact List.mem_cons_self | refine List.mem_cons_of_mem _ ?_))) ht1 hn1).mono ?_
      rintro e w2 ⟨rfl, hb⟩
      rw [HBIG.out]
      replace X := Lib.hid (X.out.below hb)
      clear hb
      clear z0 y0
      go_wp2_with fail
      go_ret
      exact GivesBool.ret X.out.low
    case inr =>
      have HR1 := Lib.hid hr1
      clear hr1
      have hq1 : (Dat.l L1).bulk ≤ 1099511627776 := by simp only [Dat.bulk, bulkAll] at hb1 ⊢; omega
      have hqr1 : (Dat.r [.s f1, .l L1]).bulk ≤ 1099511627776 := by omega
      go_enter Try.func10, Try.ntmps10
      obtain ⟨z0, y0⟩ := X.out.two (g := W.heap.size) (x := .string f0) (y := .slice A0 n0 c0) (by repeat (first | exact List.mem_cons_self | refine List.mem_cons_of_mem _ ?_))
      go_wp2_with fail
      refine (szScript f0 L0 A0 n0 c0 (1048576) _ (by omega) (by omega) hf0 (X.out.lies (d := .l L0) (cs := [.slice A0 n0 c0]) (by repeat (first | exact List.mem_cons_self | refine List.mem_cons_of_mem _ ?_))) ht0 hn0).mono ?_
      rintro e w1 ⟨rfl, hb⟩
      rw [HR0.out]
      replace X := Lib.hid (X.out.below hb)
      clear hb
      clear z0 y0
      obtain ⟨z0, y0⟩ := X.out.two (g := W.heap.size + 1) (x := .string f1) (y := .slice A1 n1 c1) (by repeat (first | exact List.mem_cons_self | refine List.mem_cons_of_mem _ ?_))
      go_wp2_with fail
      refine (szScript f1 L1 A1 n1 c1 (r0) _ (by omega) (by omega) hf1 (X.out.lies (d := .l L1) (cs := [.slice A1 n1 c1]) (by repeat (first | exact List.mem_cons_self | refine List.mem_cons_of_mem _ ?_))) ht1 hn1).mono ?_
      rintro e w2 ⟨rfl, hb⟩
      rw [HR1.out]
      replace X := Lib.hid (X.out.below hb)
      clear hb
      clear z0 y0
      obtain ⟨z0, y0⟩ := X.out.two (g := W.heap.size) (x := .string f0) (y := .slice A0 n0 c0) (by repeat (first | exact List.mem_cons_self | refine List.mem_cons_of_mem _ ?_))
      obtain ⟨z1, y1⟩ := X.out.two (g := W.heap.size + 1) (x := .string f1) (y := .slice A1 n1 c1) (by repeat (first | exact List.mem_cons_self | refine List.mem_cons_of_mem _ ?_))
      go_wp2_with fail
      replace X := Lib.hid X.out.drew
      go_region_held3 (fun w' => w'.cell? ⟨W.heap.size, 0, none⟩ = some (.string f0) ∧ w'.cell? ⟨W.heap.size, 1, none⟩ = some (.slice A0 n0 c0) ∧ w'.cell? ⟨W.heap.size + 1, 0, none⟩ = some (.string f1) ∧ w'.cell? ⟨W.heap.size + 1, 1, none⟩ = some (.slice A1 n1 c1))
        (first | with_reducible exact ⟨(X.out.two (g := W.heap.size) (x := .string f0) (y := .slice A0 n0 c0) (by repeat (first | exact List.mem_cons_self | refine List.mem_cons_of_mem _ ?_))).1, (X.out.two (g := W.heap.size) (x := .string f0) (y := .slice A0 n0 c0) (by repeat (first | exact List.mem_cons_self | refine List.mem_cons_of_mem _ ?_))).2, (X.out.two (g := W.heap.size + 1) (x := .string f1) (y := .slice A1 n1 c1) (by repeat (first | exact List.mem_cons_self | refine List.mem_cons_of_mem _ ?_))).1, (X.out.two (g := W.heap.size + 1) (x := .string f1) (y := .slice A1 n1 c1) (by repeat (first | exact List.mem_cons_self | refine List.mem_cons_of_mem _ ?_))).2⟩ | go_keep)
        (first
        | (go_at_call 30; (with_reducible refine (toScript f0 L0 A0 n0 c0 _ (X.out.lies (d := .l L0) (cs := [.slice A0 n0 c0]) (by repeat (first | exact List.mem_cons_self | refine List.mem_cons_of_mem _ ?_))) ht0 hq0).mono ?_); rintro e u0 ⟨Bt0, kt0, rfl, hO, hb5⟩; replace X := Lib.hid ((X.out.below hb5).lie hO.lies); clear hO hb5)
        | (go_at_call 30; (with_reducible refine (toScript f1 L1 A1 n1 c1 _ (X.out.lies (d := .l L1) (cs := [.slice A1 n1 c1]) (by repeat (first | exact List.mem_cons_self | refine List.mem_cons_of_mem _ ?_))) ht1 hq1).mono ?_); rintro e u1 ⟨Bt1, kt1, rfl, hO, hb5⟩; replace X := Lib.hid ((X.out.below hb5).lie hO.lies); clear hO hb5)
        | ((with_reducible refine (specEqScr _ _ f0 L0 Bt0 n0 kt0 f1 L1 Bt1 n1 kt1 _ rfl rfl (X.out.lies (d := .l L0) (cs := [.slice Bt0 n0 kt0]) (by repeat (first | exact List.mem_cons_self | refine List.mem_cons_of_mem _ ?_))) (X.out.lies (d := .l L1) (cs := [.slice Bt1 n1 kt1]) (by repeat (first | exact List.mem_cons_self | refine List.mem_cons_of_mem _ ?_))) ht0 ht1 hn0 hn1).mono ?_); rintro e u5 ⟨rfl, hb5⟩; rw [HV.out]; replace X := Lib.hid (X.out.below hb5); clear hb5))
      all_goals (
        try clear z0 y0 z1 y1
        obtain ⟨z0, y0⟩ := X.out.two (g := W.heap.size) (x := .string f0) (y := .slice A0 n0 c0) (by repeat (first | exact List.mem_cons_self | refine List.mem_cons_of_mem _ ?_))
        go_wp2_with fail
        refine (toScript f0 L0 A0 n0 c0 _ (X.out.lies (d := .l L0) (cs := [.slice A0 n0 c0]) (by repeat (first | exact List.mem_cons_self | refine List.mem_cons_of_mem _ ?_))) ht0 hq0).mono ?_
        rintro e w3 ⟨Bx0, kx0, rfl, hO, hb⟩
        replace X := Lib.hid ((X.out.below hb).lie hO.lies)
        clear hO hb z0 y0
        replace X := Lib.hid (X.out.push #[.string f0, .slice Bx0 n0 kx0] 34)
        obtain ⟨z0, y0⟩ := X.out.two (g := W.heap.size + 1) (x := .string f1) (y := .slice A1 n1 c1) (by repeat (first | exact List.mem_cons_self | refine List.mem_cons_of_mem _ ?_))
        go_wp2_with fail
        refine (toScript f1 L1 A1 n1 c1 _ (X.out.lies (d := .l L1) (cs := [.slice A1 n1 c1]) (by repeat (first | exact List.mem_cons_self | refine List.mem_cons_of_mem _ ?_))) ht1 hq1).mono ?_
        rintro e w4 ⟨Bx1, kx1, rfl, hO, hb⟩
        replace X := Lib.hid ((X.out.below hb).lie hO.lies)
        clear hO hb z0 y0
        replace X := Lib.hid (X.out.push #[.string f1, .slice Bx1 n1 kx1] 34)
        obtain ⟨p0, q0⟩ := X.out.two (g := w3.heap.size) (x := .string f0) (y := .slice Bx0 n0 kx0) (by repeat (first | exact List.mem_cons_self | refine List.mem_cons_of_mem _ ?_))
        obtain ⟨p1, q1⟩ := X.out.two (g := w4.heap.size) (x := .string f1) (y := .slice Bx1 n1 kx1) (by repeat (first | exact List.mem_cons_self | refine List.mem_cons_of_mem _ ?_))
        go_wp2_with fail
        refine (implEqScr _ _ f0 L0 Bx0 n0 kx0 f1 L1 Bx1 n1 kx1 _ rfl rfl (X.out.lies (d := .l L0) (cs := [.slice Bx0 n0 kx0]) (by repeat (first | exact List.mem_cons_self | refine List.mem_cons_of_mem _ ?_))) (X.out.lies (d := .l L1) (cs := [.slice Bx1 n1 kx1]) (by repeat (first | exact List.mem_cons_self | refine List.mem_cons_of_mem _ ?_))) ht0 ht1 hn0 hn1).mono ?_
        rintro e w5 ⟨rfl, hb⟩
        rw [HV.out]
        replace X := Lib.hid (X.out.below hb)
        clear hb
        clear p0 q0
        clear p1 q1
        obtain ⟨p0, q0⟩ := X.out.two (g := w3.heap.size) (x := .string f0) (y := .slice Bx0 n0 kx0) (by repeat (first | exact List.mem_cons_self | refine List.mem_cons_of_mem _ ?_))
        obtain ⟨z0, y0⟩ := X.out.two (g := W.heap.size) (x := .string f0) (y := .slice A0 n0 c0) (by repeat (first | exact List.mem_cons_self | refine List.mem_cons_of_mem _ ?_))
        go_wp2_with fail
        replace X := Lib.hid X.out.drew
        go_region_held3 (fun w' => w'.cell? ⟨w3.heap.size, 0, none⟩ = some (.string f0) ∧ w'.cell? ⟨w3.heap.size, 1, none⟩ = some (.slice Bx0 n0 kx0) ∧ w'.cell? ⟨W.heap.size, 0, none⟩ = some (.string f0) ∧ w'.cell? ⟨W.heap.size, 1, none⟩ = some (.slice A0 n0 c0))
          (first | with_reducible exact ⟨(X.out.two (g := w3.heap.size) (x := .string f0) (y := .slice Bx0 n0 kx0) (by repeat (first | exact List.mem_cons_self | refine List.mem_cons_of_mem _ ?_))).1, (X.out.two (g := w3.heap.size) (x := .string f0) (y := .slice Bx0 n0 kx0) (by repeat (first | exact List.mem_cons_self | refine List.mem_cons_of_mem _ ?_))).2, (X.out.two (g := W.heap.size) (x := .string f0) (y := .slice A0 n0 c0) (by repeat (first | exact List.mem_cons_self | refine List.mem_cons_of_mem _ ?_))).1, (X.out.two (g := W.heap.size) (x := .string f0) (y := .slice A0 n0 c0) (by repeat (first | exact List.mem_cons_self | refine List.mem_cons_of_mem _ ?_))).2⟩ | go_keep)
          (first
          | (go_at_call 30; (with_reducible refine (toScript f0 L0 A0 n0 c0 _ (X.out.lies (d := .l L0) (cs := [.slice A0 n0 c0]) (by repeat (first | exact List.mem_cons_self | refine List.mem_cons_of_mem _ ?_))) ht0 hq0).mono ?_); rintro e v0 ⟨Bu0, ku0, rfl, hO, hb5⟩; replace X := Lib.hid ((X.out.below hb5).lie hO.lies); clear hO hb5)
          | (go_at_call 31; (with_reducible refine (eqScript f0 L0 Bx0 n0 kx0 Bu0 ku0 _ (X.out.lies (d := .l L0) (cs := [.slice Bx0 n0 kx0]) (by repeat (first | exact List.mem_cons_self | refine List.mem_cons_of_mem _ ?_))) (X.out.lies (d := .l L0) (cs := [.slice Bu0 n0 ku0]) (by repeat (first | exact List.mem_cons_self | refine List.mem_cons_of_mem _ ?_))) ht0 hn0).mono ?_); rintro e vv0 ⟨rfl, hb5⟩; replace X := Lib.hid (X.out.below hb5); clear hb5))
        all_goals (
          try clear p0 q0 z0 y0
          obtain ⟨p1, q1⟩ := X.out.two (g := w4.heap.size) (x := .string f1) (y := .slice Bx1 n1 kx1) (by repeat (first | exact List.mem_cons_self | refine List.mem_cons_of_mem _ ?_))
          obtain ⟨z1, y1⟩ := X.out.two (g := W.heap.size + 1) (x := .string f1) (y := .slice A1 n1 c1) (by repeat (first | exact List.mem_cons_self | refine List.mem_cons_of_mem _ ?_))
          go_wp2_with fail
          replace X := Lib.hid X.out.drew
          go_region_held3 (fun w' => w'.cell? ⟨w4.heap.size, 0, none⟩ = some (.string f1) ∧ w'.cell? ⟨w4.heap.size, 1, none⟩ = some (.slice Bx1 n1 kx1) ∧ w'.cell? ⟨W.heap.size + 1, 0, none⟩ = some (.string f1) ∧ w'.cell? ⟨W.heap.size + 1, 1, none⟩ = some (.slice A1 n1 c1))
            (first | with_reducible exact ⟨(X.out.two (g := w4.heap.size) (x := .string f1) (y := .slice Bx1 n1 kx1) (by repeat (first | exact List.mem_cons_self | refine List.mem_cons_of_mem _ ?_))).1, (X.out.two (g := w4.heap.size) (x := .string f1) (y := .slice Bx1 n1 kx1) (by repeat (first | exact List.mem_cons_self | refine List.mem_cons_of_mem _ ?_))).2, (X.out.two (g := W.heap.size + 1) (x := .string f1) (y := .slice A1 n1 c1) (by repeat (first | exact List.mem_cons_self | refine List.mem_cons_of_mem _ ?_))).1, (X.out.two (g := W.heap.size + 1) (x := .string f1) (y := .slice A1 n1 c1) (by repeat (first | exact List.mem_cons_self | refine List.mem_cons_of_mem _ ?_))).2⟩ | go_keep)
            (first
            | (go_at_call 30; (with_reducible refine (toScript f1 L1 A1 n1 c1 _ (X.out.lies (d := .l L1) (cs := [.slice A1 n1 c1]) (by repeat (first | exact List.mem_cons_self | refine List.mem_cons_of_mem _ ?_))) ht1 hq1).mono ?_); rintro e v1 ⟨Bu1, ku1, rfl, hO, hb5⟩; replace X := Lib.hid ((X.out.below hb5).lie hO.lies); clear hO hb5)
            | (go_at_call 31; (with_reducible refine (eqScript f1 L1 Bx1 n1 kx1 Bu1 ku1 _ (X.out.lies (d := .l L1) (cs := [.slice Bx1 n1 kx1]) (by repeat (first | exact List.mem_cons_self | refine List.mem_cons_of_mem _ ?_))) (X.out.lies (d := .l L1) (cs := [.slice Bu1 n1 ku1]) (by repeat (first | exact List.mem_cons_self | refine List.mem_cons_of_mem _ ?_))) ht1 hn1).mono ?_); rintro e vv1 ⟨rfl, hb5⟩; replace X := Lib.hid (X.out.below hb5); clear hb5))
          all_goals (
            try clear p1 q1 z1 y1
            go_wp2_with fail
            go_ret
            exact GivesBool.ret X.out.low)))
end Go.Proofs.Ytaepconmjmcbdaa
