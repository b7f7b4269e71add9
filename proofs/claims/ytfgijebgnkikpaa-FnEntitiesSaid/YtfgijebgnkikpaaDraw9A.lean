/- Draws of chapter 9: l9Any. -/
import Derived.Test.YtfgijebgnkikpaaDraw9D
import Derived.Deep.Cut
import Derived.LoopTactic
import Derived.Lib.Hide
import Derived.Deep.QuietTactic
import Derived.BigQuiet
import Derived.Deep.RegionWith
import Derived.Handy
namespace Go.Proofs.Ytfgijebgnkikpaa
open Go.RowKit
set_option linter.unusedVariables false
set_option linter.unusedSimpArgs false
theorem noneValue9 {L : List Dat} (h : ∀ x ∈ L, Has tyValue x) : bulkAll L = 0 := bulk_none (t := tyValue) rfl h
theorem has_small {L : List V} (h : ∀ v ∈ L, SmV v) : ∀ x ∈ L.map dOf, Has tyValue x := fun x hx => by
  obtain ⟨v, hv, rfl⟩ := List.mem_map.1 hx
  have := h v hv
  simp only [SmV] at this
  simp only [dOf, tyValue, Has, HasAll]
  exact ⟨_, rfl, _, _, rfl, ⟨v.kind, rfl, by omega, by omega⟩, _, _, rfl, ⟨v.n, rfl, by omega, by omega⟩, rfl⟩
theorem asker_small : (∀ x ∈ [Dat.r [.i 1, .i 2]], Has tyAsker x) ∧ 1 ≤ 4 := by
  refine ⟨fun x hx => ?_, by omega⟩
  rw [List.mem_singleton.1 hx]
  simp only [tyAsker, Has, HasAll]
  exact ⟨_, rfl, _, _, rfl, ⟨1, rfl, by omega, by omega⟩, _, _, rfl, ⟨2, rfl, by omega, by omega⟩, rfl⟩
theorem sent_small {t r v en qq : Int} {sn : ByteArray} {L : List V} {n : Nat} (hsm : ∀ v ∈ L, SmV v) (hn : n ≤ 4) (hsz : sn.size ≤ 8) (hin : (-100 ≤ t ∧ t ≤ 100) ∧ (-100 ≤ r ∧ r ≤ 100) ∧ (-100 ≤ v ∧ v ≤ 100) ∧ (-100 ≤ en ∧ en ≤ 100) ∧ (-100 ≤ qq ∧ qq ≤ 100)) (hl : L.length = n) :
    (∀ x ∈ [Dat.r [.i t, .s sn, .l (L.map dOf), .i r, .r [.i v, .i en, .i qq]]], Has tySent x) ∧ (Dat.l [Dat.r [.i t, .s sn, .l (L.map dOf), .i r, .r [.i v, .i en, .i qq]]]).bulk ≤ 1000 := by
  have h1 := has_small hsm
  have h2 : bulkAll (L.map dOf) = 0 := noneValue9 h1
  refine ⟨fun x hx => ?_, ?_⟩
  · rw [List.mem_singleton.1 hx]
    simp only [tySent, Has, HasAll]
    exact ⟨_, rfl, _, _, rfl, ⟨t, rfl, by omega, by omega⟩, _, _, rfl, ⟨sn, rfl, by omega⟩, _, _, rfl, ⟨_, rfl, by rw [List.length_map]; omega, h1⟩, _, _, rfl, ⟨r, rfl, by omega, by omega⟩, _, _, rfl, ⟨_, rfl, _, _, rfl, ⟨v, rfl, by omega, by omega⟩, _, _, rfl, ⟨en, rfl, by omega, by omega⟩, _, _, rfl, ⟨qq, rfl, by omega, by omega⟩, rfl⟩, rfl⟩
  · simp only [Dat.bulk, bulkAll, List.length_map, h2, List.length_singleton, List.length_cons, List.length_nil]
    omega
theorem EntQ.done {W w w' : World} {B g k : Nat} {f0 f1 f3 f4_0 f4_1 f7 f8 f9 f10 : Int} {L2 : List Dat} {A2 : Option Addr} {n2 c2 : Nat} {L5 : List Dat} {A5 : Option Addr} {n5 c5 : Nat} {L6 : List Dat} {A6 : Option Addr} {n6 c6 : Nat} (h : EntQ W B g k [.int .i64 f0, .int .i64 f1, .slice A2 n2 c2, .int .i64 f3, .int .i64 f4_0, .int .i64 f4_1, .slice A5 n5 c5, .slice A6 n6 c6, .int .i64 f7, .int .i64 f8, .int .i64 f9, .int .i64 f10] L2 A2 n2 c2 L5 A5 n5 c5 L6 A6 n6 c6 w) (hb : Below W.heap.size w w') (ht : Touch (fun b => b = W.heap.size) w w') : AnyE B g W (.returned (.agg #[.int .i64 f0, .int .i64 f1, .slice A2 n2 c2, .int .i64 f3, .int .i64 f4_0, .int .i64 f4_1, .slice A5 n5 c5, .slice A6 n6 c6, .int .i64 f7, .int .i64 f8, .int .i64 f9, .int .i64 f10])) w' := by
  have a := h.arith
  have o := h.2.2.2.1.touch ht (fun b hb e => by omega)
  exact ⟨f0, f1, L2, A2, n2, c2, f3, f4_0, f4_1, L5, A5, n5, c5, L6, A6, n6, c6, f7, f8, f9, f10, rfl, ⟨o.1.mono (fun b hb => by omega), o.2.1.mono (fun b hb => by omega), o.2.2.mono (fun b hb => by omega)⟩, h.2.2.2.2.1, h.1.low hb (Nat.le_refl _) a.2.1⟩
set_option maxRecDepth 100000 in
set_option maxHeartbeats 24000000 in
theorem l9Any (B g : Nat) (w : World) (hc : Cur w B g) : Calls Try.prog 47 #[.pointer (some ⟨g, 0, none⟩)] w (AnyE B g w) := by
  have hg := hc.lt
  have X : EntQ w B g (w.heap.size + 1) [.int .i64 0, .int .i64 0, .slice none 0 0, .int .i64 0, .int .i64 0, .int .i64 0, .slice none 0 0, .slice none 0 0, .int .i64 0, .int .i64 0, .int .i64 0, .int .i64 0] [] none 0 0 [] none 0 0 [] none 0 0 ((w.alloc (.cells #[.int .i64 0, .int .i64 0, .slice none 0 0, .int .i64 0, .int .i64 0, .int .i64 0, .slice none 0 0, .slice none 0 0, .int .i64 0, .int .i64 0, .int .i64 0, .int .i64 0] 30)).alloc (.cells #[.int .i64 0, .int .i64 0, .slice none 0 0, .int .i64 0, .int .i64 0, .int .i64 0, .slice none 0 0, .slice none 0 0, .int .i64 0, .int .i64 0, .int .i64 0, .int .i64 0] 30)) := by
    have q1 := Zb.new (B := w.heap.size) (w.alloc (.cells #[.int .i64 0, .int .i64 0, .slice none 0 0, .int .i64 0, .int .i64 0, .int .i64 0, .slice none 0 0, .slice none 0 0, .int .i64 0, .int .i64 0, .int .i64 0, .int .i64 0] 30)) #[.int .i64 0, .int .i64 0, .slice none 0 0, .int .i64 0, .int .i64 0, .int .i64 0, .slice none 0 0, .slice none 0 0, .int .i64 0, .int .i64 0, .int .i64 0, .int .i64 0] 30 (by simp)
    rw [World.size_alloc] at q1
    exact ⟨⟨(hc.alloc' _).alloc' _, ((Turn.refl g w).alloc _).alloc _⟩, (Zb.new w #[.int .i64 0, .int .i64 0, .slice none 0 0, .int .i64 0, .int .i64 0, .int .i64 0, .slice none 0 0, .slice none 0 0, .int .i64 0, .int .i64 0, .int .i64 0, .int .i64 0] 30 (Nat.le_refl _)).below ((Below.refl _ _).alloc (Nat.le_refl _) _), q1, ⟨own_nil _ _, own_nil _ _, own_nil _ _⟩, Small9.nil, by omega, hg⟩
  replace X := Lib.hid X
  clear hc
  go_enter Try.func47, Try.ntmps47
  refine wp_seq_k (fun K0 hK0 => ?_)
  have HK0 := Lib.hid hK0
  clear hK0
  go_wp2_with fail
  refine HK0.out _ _ ?_
  clear HK0 K0
  refine wp_seq_k (fun K1 hK1 => ?_)
  have HK1 := Lib.hid hK1
  clear hK1
  go_wp2_with fail
  refine HK1.out _ _ ?_
  clear HK1 K1
  refine wp_seq_k (fun K2 hK2 => ?_)
  have HK2 := Lib.hid hK2
  clear hK2
  go_cut [] from 4 (fun wx => ∃ (cs : List Value) (L2 : List Dat) (A2 : Option Addr) (n2 c2 : Nat) (L5 : List Dat) (A5 : Option Addr) (n5 c5 : Nat) (L6 : List Dat) (A6 : Option Addr) (n6 c6 : Nat) , (∃ (f0 f1 f3 f4_0 f4_1 f7 f8 f9 f10 : Int), cs = [.int .i64 f0, .int .i64 f1, .slice A2 n2 c2, .int .i64 f3, .int .i64 f4_0, .int .i64 f4_1, .slice A5 n5 c5, .slice A6 n6 c6, .int .i64 f7, .int .i64 f8, .int .i64 f9, .int .i64 f10]) ∧ EntQ w B g (w.heap.size + 1) cs L2 A2 n2 c2 L5 A5 n5 c5 L6 A6 n6 c6 wx)
  case first =>
    go_wp2_with fail
    refine (l1Below B g 3 _ (by omega) (by omega) X.out.cur).mono ?_
    rintro e v1 ⟨x, hx0, hx1, rfl, hL⟩
    replace X := Lib.hid (X.out.turn hL)
    clear hL
    rcases (show x = 0 ∨ x = 1 ∨ x = 2 by omega) with rfl | rfl | rfl
    · skip
      go_wp2_with fail
      refine (l1Below B g 3 _ (by omega) (by omega) X.out.cur).mono ?_
      rintro e v2 ⟨u, hu0, hu1, rfl, hL⟩
      replace X := Lib.hid (X.out.turn hL)
      clear hL
      go_wp2_with fail
      refine (l4List9 B g _ X.out.cur).mono ?_
      rintro e v3 ⟨A, n, c, L, rfl, hO, hn, hsm, hL⟩
      replace X := Lib.hid (X.out.turn hL)
      clear hL
      have hTy := has_small hsm
      have HTY := Lib.hid hTy
      go_wp2_with fail
      refine (specNewObj u (L.map dOf) A n c _ (hO.fr.lies hO.cap.1) hTy (by omega)).mono ?_
      rintro e v4 ⟨A8, c8, rfl, hO8, hb⟩
      have X9 := Lib.hid ((X.out.low hb).own (L2x := L.map dOf) (A2x := A8) (n2x := n) (c2x := c8) ⟨hO8.mono (fun b h1 => by have h2 := h1.1; have h3 := X.out.arith; omega), own_nil _ _, own_nil _ _⟩ ⟨⟨hTy, hn⟩, Small9.nil.2.1, Small9.nil.2.2⟩)
      clear X hO8 hb hO
      have X := X9
      clear X9
      have y5_0 := X.out.at_ 0 (.int .i64 0) rfl
      have y5_1 := X.out.at_ 1 (.int .i64 0) rfl
      have y5_2 := X.out.at_ 2 (.slice none 0 0) rfl
      have y5_3 := X.out.at_ 3 (.int .i64 0) rfl
      have y5_4 := X.out.at_ 4 (.int .i64 0) rfl
      have y5_5 := X.out.at_ 5 (.int .i64 0) rfl
      have y5_6 := X.out.at_ 6 (.slice none 0 0) rfl
      have y5_7 := X.out.at_ 7 (.slice none 0 0) rfl
      have y5_8 := X.out.at_ 8 (.int .i64 0) rfl
      have y5_9 := X.out.at_ 9 (.int .i64 0) rfl
      have y5_10 := X.out.at_ 10 (.int .i64 0) rfl
      have y5_11 := X.out.at_ 11 (.int .i64 0) rfl
      have fy5 := X.out.fz
      go_wp2_with fail
      go_meet
      refine ⟨_, _, _, _, _, _, _, _, _, _, _, _, _, ?_, ((((((((((((X.out.put 0 _).put 1 _).put 2 _).put 3 _).put 4 _).put 5 _).put 6 _).put 7 _).put 8 _).put 9 _).put 10 _).put 11 _)⟩
      exact ⟨_, _, _, _, _, _, _, _, _, rfl⟩
    · skip
      go_wp2_with fail
      refine (l1Below B g 3 _ (by omega) (by omega) X.out.cur).mono ?_
      rintro e v6 ⟨u, hu0, hu1, rfl, hL⟩
      replace X := Lib.hid (X.out.turn hL)
      clear hL
      go_wp2_with fail
      refine (l1Below B g 5 _ (by omega) (by omega) X.out.cur).mono ?_
      rintro e v7 ⟨u2, hu20, hu21, rfl, hL⟩
      replace X := Lib.hid (X.out.turn hL)
      clear hL
      go_wp2_with fail
      refine (specNewProx _ (1 + u) (1 + u2)).mono ?_
      rintro e v8 ⟨rfl, hb⟩
      replace X := Lib.hid (X.out.low hb)
      clear hb
      have y9_0 := X.out.at_ 0 (.int .i64 0) rfl
      have y9_1 := X.out.at_ 1 (.int .i64 0) rfl
      have y9_2 := X.out.at_ 2 (.slice none 0 0) rfl
      have y9_3 := X.out.at_ 3 (.int .i64 0) rfl
      have y9_4 := X.out.at_ 4 (.int .i64 0) rfl
      have y9_5 := X.out.at_ 5 (.int .i64 0) rfl
      have y9_6 := X.out.at_ 6 (.slice none 0 0) rfl
      have y9_7 := X.out.at_ 7 (.slice none 0 0) rfl
      have y9_8 := X.out.at_ 8 (.int .i64 0) rfl
      have y9_9 := X.out.at_ 9 (.int .i64 0) rfl
      have y9_10 := X.out.at_ 10 (.int .i64 0) rfl
      have y9_11 := X.out.at_ 11 (.int .i64 0) rfl
      have fy9 := X.out.fz
      go_wp2_with fail
      go_meet
      refine ⟨_, _, _, _, _, _, _, _, _, _, _, _, _, ?_, ((((((((((((X.out.put 0 _).put 1 _).put 2 _).put 3 _).put 4 _).put 5 _).put 6 _).put 7 _).put 8 _).put 9 _).put 10 _).put 11 _)⟩
      exact ⟨_, _, _, _, _, _, _, _, _, rfl⟩
    · skip
      go_wp2_with fail
      refine (specNewProm _).mono ?_
      rintro e v10 ⟨rfl, hb⟩
      replace X := Lib.hid (X.out.low hb)
      clear hb
      have y11_0 := X.out.at_ 0 (.int .i64 0) rfl
      have y11_1 := X.out.at_ 1 (.int .i64 0) rfl
      have y11_2 := X.out.at_ 2 (.slice none 0 0) rfl
      have y11_3 := X.out.at_ 3 (.int .i64 0) rfl
      have y11_4 := X.out.at_ 4 (.int .i64 0) rfl
      have y11_5 := X.out.at_ 5 (.int .i64 0) rfl
      have y11_6 := X.out.at_ 6 (.slice none 0 0) rfl
      have y11_7 := X.out.at_ 7 (.slice none 0 0) rfl
      have y11_8 := X.out.at_ 8 (.int .i64 0) rfl
      have y11_9 := X.out.at_ 9 (.int .i64 0) rfl
      have y11_10 := X.out.at_ 10 (.int .i64 0) rfl
      have y11_11 := X.out.at_ 11 (.int .i64 0) rfl
      have fy11 := X.out.fz
      go_wp2_with fail
      refine (l1Below B g 4 _ (by omega) (by omega) (((((((((((((X.out.put 0 _).put 1 _).put 2 _).put 3 _).put 4 _).put 5 _).put 6 _).put 7 _).put 8 _).put 9 _).put 10 _).put 11 _)).cur).mono ?_
      rintro e v12 ⟨s, hs0, hs1, rfl, hL⟩
      clear y11_0 y11_1 y11_2 y11_3 y11_4 y11_5 y11_6 y11_7 y11_8 y11_9 y11_10 y11_11 fy11
      have X9 : Hid (EntQ w B g (w.heap.size + 1) [.int .i64 2, .int .i64 0, .slice none 0 0, .int .i64 1, .int .i64 0, .int .i64 0, .slice none 0 0, .slice none 0 0, .int .i64 0, .int .i64 0, .int .i64 0, .int .i64 0] [] none 0 0 [] none 0 0 [] none 0 0 v12) := Lib.hid (((((((((((((X.out.put 0 _).put 1 _).put 2 _).put 3 _).put 4 _).put 5 _).put 6 _).put 7 _).put 8 _).put 9 _).put 10 _).put 11 _).turn hL)
      clear X hL
      have X := X9
      clear X9
      rcases (show s = 0 ∨ s = 1 ∨ s = 2 ∨ s = 3 by omega) with rfl | rfl | rfl | rfl
      · skip
        have y13_0 := X.out.at_ 0 (.int .i64 2) rfl
        have y13_1 := X.out.at_ 1 (.int .i64 0) rfl
        have y13_2 := X.out.at_ 2 (.slice none 0 0) rfl
        have y13_3 := X.out.at_ 3 (.int .i64 1) rfl
        have y13_4 := X.out.at_ 4 (.int .i64 0) rfl
        have y13_5 := X.out.at_ 5 (.int .i64 0) rfl
        have y13_6 := X.out.at_ 6 (.slice none 0 0) rfl
        have y13_7 := X.out.at_ 7 (.slice none 0 0) rfl
        have y13_8 := X.out.at_ 8 (.int .i64 0) rfl
        have y13_9 := X.out.at_ 9 (.int .i64 0) rfl
        have y13_10 := X.out.at_ 10 (.int .i64 0) rfl
        have y13_11 := X.out.at_ 11 (.int .i64 0) rfl
        have fy13 := X.out.fz
        go_wp2_with fail
        refine (l1Once B g 2 _ (by omega) (by omega) ((X.out.put 3 _)).cur).mono ?_
        rintro e v14 ⟨o, rfl, hL⟩
        clear y13_0 y13_1 y13_2 y13_3 y13_4 y13_5 y13_6 y13_7 y13_8 y13_9 y13_10 y13_11 fy13
        have X9 : Hid (EntQ w B g (w.heap.size + 1) [.int .i64 2, .int .i64 0, .slice none 0 0, .int .i64 1, .int .i64 0, .int .i64 0, .slice none 0 0, .slice none 0 0, .int .i64 0, .int .i64 0, .int .i64 0, .int .i64 0] [] none 0 0 [] none 0 0 [] none 0 0 v14) := Lib.hid ((X.out.put 3 _).turn hL)
        clear X hL
        have X := X9
        clear X9
        cases o with
        | false =>
          have y15_0 := X.out.at_ 0 (.int .i64 2) rfl
          have y15_1 := X.out.at_ 1 (.int .i64 0) rfl
          have y15_2 := X.out.at_ 2 (.slice none 0 0) rfl
          have y15_3 := X.out.at_ 3 (.int .i64 1) rfl
          have y15_4 := X.out.at_ 4 (.int .i64 0) rfl
          have y15_5 := X.out.at_ 5 (.int .i64 0) rfl
          have y15_6 := X.out.at_ 6 (.slice none 0 0) rfl
          have y15_7 := X.out.at_ 7 (.slice none 0 0) rfl
          have y15_8 := X.out.at_ 8 (.int .i64 0) rfl
          have y15_9 := X.out.at_ 9 (.int .i64 0) rfl
          have y15_10 := X.out.at_ 10 (.int .i64 0) rfl
          have y15_11 := X.out.at_ 11 (.int .i64 0) rfl
          have fy15 := X.out.fz
          go_wp2_with fail
          go_meet
          refine ⟨_, _, _, _, _, _, _, _, _, _, _, _, _, ?_, X.out⟩
          exact ⟨_, _, _, _, _, _, _, _, _, rfl⟩
        | true =>
          have y16_0 := X.out.at_ 0 (.int .i64 2) rfl
          have y16_1 := X.out.at_ 1 (.int .i64 0) rfl
          have y16_2 := X.out.at_ 2 (.slice none 0 0) rfl
          have y16_3 := X.out.at_ 3 (.int .i64 1) rfl
          have y16_4 := X.out.at_ 4 (.int .i64 0) rfl
          have y16_5 := X.out.at_ 5 (.int .i64 0) rfl
          have y16_6 := X.out.at_ 6 (.slice none 0 0) rfl
          have y16_7 := X.out.at_ 7 (.slice none 0 0) rfl
          have y16_8 := X.out.at_ 8 (.int .i64 0) rfl
          have y16_9 := X.out.at_ 9 (.int .i64 0) rfl
          have y16_10 := X.out.at_ 10 (.int .i64 0) rfl
          have y16_11 := X.out.at_ 11 (.int .i64 0) rfl
          have fy16 := X.out.fz
          go_wp2_with fail
          refine (l9Sent B g _ X.out.cur).mono ?_
          rintro e v17 ⟨t, sn, A, n, c, L, r, v, en, qq, rfl, hO, hn, hsm, hsz, hin, hL⟩
          clear y16_0 y16_1 y16_2 y16_3 y16_4 y16_5 y16_6 y16_7 y16_8 y16_9 y16_10 y16_11 fy16
          have ar := X.out.arith
          have hsz9 := hL.2.size
          have hOs : Owns v17 (.r [.i t, .s sn, .l (L.map dOf), .i r, .r [.i v, .i en, .i qq]]) [.int .i64 t, .string sn, .slice A n c, .int .i64 r, .int .i64 v, .int .i64 en, .int .i64 qq] (rng v14.heap.size v17.heap.size) := ownSent (hO.mono (fun b hb => ⟨by have := hb.1; omega, hb.2⟩)) hsz9
          have hsm5 := sent_small hsm hn hsz hin (by have h9 := hO.lies.count; rw [List.length_map] at h9; exact h9)
          have XA := (X.out.turn hL).low ((Below.refl _ _).alloc (Nat.le_refl _) (.cells #[.int .i64 t, .string sn, .slice A n c, .int .i64 r, .int .i64 v, .int .i64 en, .int .i64 qq] 111))
          have hq : Owns (v17.alloc (.cells #[.int .i64 t, .string sn, .slice A n c, .int .i64 r, .int .i64 v, .int .i64 en, .int .i64 qq] 111)) (.l [(.r [.i t, .s sn, .l (L.map dOf), .i r, .r [.i v, .i en, .i qq]])]) [.slice (some ⟨v17.heap.size, 0, none⟩) 1 1] (fun b => w.heap.size + 1 < b) := (Owns.lit9 (w := v17) (C := #[.int .i64 t, .string sn, .slice A n c, .int .i64 r, .int .i64 v, .int .i64 en, .int .i64 qq]) hOs (fun b hb => hb.2) rfl).mono (fun b hb => hb.elim (fun h1 => by have := h1.1; omega) (fun h1 => by omega))
          have XB := ((XA.own (L5x := [(.r [.i t, .s sn, .l (L.map dOf), .i r, .r [.i v, .i en, .i qq]])]) (A5x := some ⟨v17.heap.size, 0, none⟩) (n5x := 1) (c5x := 1) ⟨own_nil _ _, hq, own_nil _ _⟩ ⟨Small9.nil.1, hsm5, Small9.nil.2.2⟩).put 6 (.slice (some ⟨v17.heap.size, 0, none⟩) 1 1))
          have W2 : Hid (∃ w2, (v17.alloc (.cells #[.int .i64 t, .string sn, .slice A n c, .int .i64 r, .int .i64 v, .int .i64 en, .int .i64 qq] 111)).setCell ⟨w.heap.size + 1, 6, none⟩ (.slice (some ⟨v17.heap.size, 0, none⟩) 1 1) = w2) := Lib.hid ⟨_, rfl⟩
          have hz9 := XB.arith.2.2
          have XC := (XB.low ((Below.refl _ _).alloc (Nat.le_refl _) (.cells #[.int .i64 1, .int .i64 2] 89)))
          have ha9 : Owns _ (.l [.r [.i 1, .i 2]]) _ _ := (Owns.lit9 (w := (v17.alloc (.cells #[.int .i64 t, .string sn, .slice A n c, .int .i64 r, .int .i64 v, .int .i64 en, .int .i64 qq] 111)).setCell ⟨w.heap.size + 1, 6, none⟩ (.slice (some ⟨v17.heap.size, 0, none⟩) 1 1)) (C := #[.int .i64 1, .int .i64 2]) (E := 89) (ownAsker (f0 := 1) (f1 := 2) (Iv := fun _ => False)) (fun b hb => hb.elim) rfl).mono (B' := fun b => w.heap.size + 1 < b) (fun b hb => hb.elim (fun h1 => h1.elim) (fun h1 => by rw [h1]; exact hz9))
          have XD := XC.own ⟨XC.2.2.2.1.1, XC.2.2.2.1.2.1, ha9⟩ ⟨XC.2.2.2.2.1.1, XC.2.2.2.2.1.2.1, asker_small⟩
          have XB' := Lib.hid XB
          have XA' := Lib.hid XA
          have XC' := Lib.hid XC
          have XD' := Lib.hid XD
          have X7 := Lib.hid (X.out.turn hL)
          clear X XA XB XC XD hq hO hOs hL ha9 W2
          have y18_0 := X7.out.at_ 0 (.int .i64 2) rfl
          have y18_1 := X7.out.at_ 1 (.int .i64 0) rfl
          have y18_2 := X7.out.at_ 2 (.slice none 0 0) rfl
          have y18_3 := X7.out.at_ 3 (.int .i64 1) rfl
          have y18_4 := X7.out.at_ 4 (.int .i64 0) rfl
          have y18_5 := X7.out.at_ 5 (.int .i64 0) rfl
          have y18_6 := X7.out.at_ 6 (.slice none 0 0) rfl
          have y18_7 := X7.out.at_ 7 (.slice none 0 0) rfl
          have y18_8 := X7.out.at_ 8 (.int .i64 0) rfl
          have y18_9 := X7.out.at_ 9 (.int .i64 0) rfl
          have y18_10 := X7.out.at_ 10 (.int .i64 0) rfl
          have y18_11 := X7.out.at_ 11 (.int .i64 0) rfl
          have fy18 := X7.out.fz
          have y19_0 := XA'.out.at_ 0 (.int .i64 2) rfl
          have y19_1 := XA'.out.at_ 1 (.int .i64 0) rfl
          have y19_2 := XA'.out.at_ 2 (.slice none 0 0) rfl
          have y19_3 := XA'.out.at_ 3 (.int .i64 1) rfl
          have y19_4 := XA'.out.at_ 4 (.int .i64 0) rfl
          have y19_5 := XA'.out.at_ 5 (.int .i64 0) rfl
          have y19_6 := XA'.out.at_ 6 (.slice none 0 0) rfl
          have y19_7 := XA'.out.at_ 7 (.slice none 0 0) rfl
          have y19_8 := XA'.out.at_ 8 (.int .i64 0) rfl
          have y19_9 := XA'.out.at_ 9 (.int .i64 0) rfl
          have y19_10 := XA'.out.at_ 10 (.int .i64 0) rfl
          have y19_11 := XA'.out.at_ 11 (.int .i64 0) rfl
          have fy19 := XA'.out.fz
          have y20_0 := XB'.out.at_ 0 (.int .i64 2) rfl
          have y20_1 := XB'.out.at_ 1 (.int .i64 0) rfl
          have y20_2 := XB'.out.at_ 2 (.slice none 0 0) rfl
          have y20_3 := XB'.out.at_ 3 (.int .i64 1) rfl
          have y20_4 := XB'.out.at_ 4 (.int .i64 0) rfl
          have y20_5 := XB'.out.at_ 5 (.int .i64 0) rfl
          have y20_6 := XB'.out.at_ 6 (.slice (some ⟨v17.heap.size, 0, none⟩) 1 1) rfl
          have y20_7 := XB'.out.at_ 7 (.slice none 0 0) rfl
          have y20_8 := XB'.out.at_ 8 (.int .i64 0) rfl
          have y20_9 := XB'.out.at_ 9 (.int .i64 0) rfl
          have y20_10 := XB'.out.at_ 10 (.int .i64 0) rfl
          have y20_11 := XB'.out.at_ 11 (.int .i64 0) rfl
          have fy20 := XB'.out.fz
          have y21_0 := XC'.out.at_ 0 (.int .i64 2) rfl
          have y21_1 := XC'.out.at_ 1 (.int .i64 0) rfl
          have y21_2 := XC'.out.at_ 2 (.slice none 0 0) rfl
          have y21_3 := XC'.out.at_ 3 (.int .i64 1) rfl
          have y21_4 := XC'.out.at_ 4 (.int .i64 0) rfl
          have y21_5 := XC'.out.at_ 5 (.int .i64 0) rfl
          have y21_6 := XC'.out.at_ 6 (.slice (some ⟨v17.heap.size, 0, none⟩) 1 1) rfl
          have y21_7 := XC'.out.at_ 7 (.slice none 0 0) rfl
          have y21_8 := XC'.out.at_ 8 (.int .i64 0) rfl
          have y21_9 := XC'.out.at_ 9 (.int .i64 0) rfl
          have y21_10 := XC'.out.at_ 10 (.int .i64 0) rfl
          have y21_11 := XC'.out.at_ 11 (.int .i64 0) rfl
          have fy21 := XC'.out.fz
          simp only [World.size_alloc, World.size_setCell] at XD'
          go_wp2_with fail
          go_meet
          refine ⟨_, _, _, _, _, _, _, _, _, _, _, _, _, ?_, (XD'.out.put 7 _)⟩
          exact ⟨_, _, _, _, _, _, _, _, _, rfl⟩
      · skip
        have y22_0 := X.out.at_ 0 (.int .i64 2) rfl
        have y22_1 := X.out.at_ 1 (.int .i64 0) rfl
        have y22_2 := X.out.at_ 2 (.slice none 0 0) rfl
        have y22_3 := X.out.at_ 3 (.int .i64 1) rfl
        have y22_4 := X.out.at_ 4 (.int .i64 0) rfl
        have y22_5 := X.out.at_ 5 (.int .i64 0) rfl
        have y22_6 := X.out.at_ 6 (.slice none 0 0) rfl
        have y22_7 := X.out.at_ 7 (.slice none 0 0) rfl
        have y22_8 := X.out.at_ 8 (.int .i64 0) rfl
        have y22_9 := X.out.at_ 9 (.int .i64 0) rfl
        have y22_10 := X.out.at_ 10 (.int .i64 0) rfl
        have y22_11 := X.out.at_ 11 (.int .i64 0) rfl
        have fy22 := X.out.fz
        go_wp2_with fail
        refine (l1Below B g 9 _ (by omega) (by omega) ((X.out.put 3 _)).cur).mono ?_
        rintro e v23 ⟨u, hu0, hu1, rfl, hL⟩
        clear y22_0 y22_1 y22_2 y22_3 y22_4 y22_5 y22_6 y22_7 y22_8 y22_9 y22_10 y22_11 fy22
        have X9 : Hid (EntQ w B g (w.heap.size + 1) [.int .i64 2, .int .i64 0, .slice none 0 0, .int .i64 2, .int .i64 0, .int .i64 0, .slice none 0 0, .slice none 0 0, .int .i64 0, .int .i64 0, .int .i64 0, .int .i64 0] [] none 0 0 [] none 0 0 [] none 0 0 v23) := Lib.hid ((X.out.put 3 _).turn hL)
        clear X hL
        have X := X9
        clear X9
        go_wp2_with fail
        refine (specIntV u _).mono ?_
        rintro e v24 ⟨rfl, hb⟩
        replace X := Lib.hid (X.out.low hb)
        clear hb
        generalize intV u = vv at *
        have y25_0 := X.out.at_ 0 (.int .i64 2) rfl
        have y25_1 := X.out.at_ 1 (.int .i64 0) rfl
        have y25_2 := X.out.at_ 2 (.slice none 0 0) rfl
        have y25_3 := X.out.at_ 3 (.int .i64 2) rfl
        have y25_4 := X.out.at_ 4 (.int .i64 0) rfl
        have y25_5 := X.out.at_ 5 (.int .i64 0) rfl
        have y25_6 := X.out.at_ 6 (.slice none 0 0) rfl
        have y25_7 := X.out.at_ 7 (.slice none 0 0) rfl
        have y25_8 := X.out.at_ 8 (.int .i64 0) rfl
        have y25_9 := X.out.at_ 9 (.int .i64 0) rfl
        have y25_10 := X.out.at_ 10 (.int .i64 0) rfl
        have y25_11 := X.out.at_ 11 (.int .i64 0) rfl
        have fy25 := X.out.fz
        go_wp2_with fail
        go_meet
        refine ⟨_, _, _, _, _, _, _, _, _, _, _, _, _, ?_, ((X.out.put 4 _).put 5 _)⟩
        exact ⟨_, _, _, _, _, _, _, _, _, rfl⟩
      · skip
        have y26_0 := X.out.at_ 0 (.int .i64 2) rfl
        have y26_1 := X.out.at_ 1 (.int .i64 0) rfl
        have y26_2 := X.out.at_ 2 (.slice none 0 0) rfl
        have y26_3 := X.out.at_ 3 (.int .i64 1) rfl
        have y26_4 := X.out.at_ 4 (.int .i64 0) rfl
        have y26_5 := X.out.at_ 5 (.int .i64 0) rfl
        have y26_6 := X.out.at_ 6 (.slice none 0 0) rfl
        have y26_7 := X.out.at_ 7 (.slice none 0 0) rfl
        have y26_8 := X.out.at_ 8 (.int .i64 0) rfl
        have y26_9 := X.out.at_ 9 (.int .i64 0) rfl
        have y26_10 := X.out.at_ 10 (.int .i64 0) rfl
        have y26_11 := X.out.at_ 11 (.int .i64 0) rfl
        have fy26 := X.out.fz
        go_wp2_with fail
        refine (l1Below B g 3 _ (by omega) (by omega) ((X.out.put 3 _)).cur).mono ?_
        rintro e v27 ⟨u, hu0, hu1, rfl, hL⟩
        clear y26_0 y26_1 y26_2 y26_3 y26_4 y26_5 y26_6 y26_7 y26_8 y26_9 y26_10 y26_11 fy26
        have X9 : Hid (EntQ w B g (w.heap.size + 1) [.int .i64 2, .int .i64 0, .slice none 0 0, .int .i64 3, .int .i64 0, .int .i64 0, .slice none 0 0, .slice none 0 0, .int .i64 0, .int .i64 0, .int .i64 0, .int .i64 0] [] none 0 0 [] none 0 0 [] none 0 0 v27) := Lib.hid ((X.out.put 3 _).turn hL)
        clear X hL
        have X := X9
        clear X9
        have y28_0 := X.out.at_ 0 (.int .i64 2) rfl
        have y28_1 := X.out.at_ 1 (.int .i64 0) rfl
        have y28_2 := X.out.at_ 2 (.slice none 0 0) rfl
        have y28_3 := X.out.at_ 3 (.int .i64 3) rfl
        have y28_4 := X.out.at_ 4 (.int .i64 0) rfl
        have y28_5 := X.out.at_ 5 (.int .i64 0) rfl
        have y28_6 := X.out.at_ 6 (.slice none 0 0) rfl
        have y28_7 := X.out.at_ 7 (.slice none 0 0) rfl
        have y28_8 := X.out.at_ 8 (.int .i64 0) rfl
        have y28_9 := X.out.at_ 9 (.int .i64 0) rfl
        have y28_10 := X.out.at_ 10 (.int .i64 0) rfl
        have y28_11 := X.out.at_ 11 (.int .i64 0) rfl
        have fy28 := X.out.fz
        go_wp2_with fail
        refine (l1Below B g 5 _ (by omega) (by omega) ((X.out.put 8 _)).cur).mono ?_
        rintro e v29 ⟨u2, hu20, hu21, rfl, hL⟩
        clear y28_0 y28_1 y28_2 y28_3 y28_4 y28_5 y28_6 y28_7 y28_8 y28_9 y28_10 y28_11 fy28
        have X9 : Hid (EntQ w B g (w.heap.size + 1) [.int .i64 2, .int .i64 0, .slice none 0 0, .int .i64 3, .int .i64 0, .int .i64 0, .slice none 0 0, .slice none 0 0, .int .i64 (1 + u), .int .i64 0, .int .i64 0, .int .i64 0] [] none 0 0 [] none 0 0 [] none 0 0 v29) := Lib.hid ((X.out.put 8 _).turn hL)
        clear X hL
        have X := X9
        clear X9
        have y30_0 := X.out.at_ 0 (.int .i64 2) rfl
        have y30_1 := X.out.at_ 1 (.int .i64 0) rfl
        have y30_2 := X.out.at_ 2 (.slice none 0 0) rfl
        have y30_3 := X.out.at_ 3 (.int .i64 3) rfl
        have y30_4 := X.out.at_ 4 (.int .i64 0) rfl
        have y30_5 := X.out.at_ 5 (.int .i64 0) rfl
        have y30_6 := X.out.at_ 6 (.slice none 0 0) rfl
        have y30_7 := X.out.at_ 7 (.slice none 0 0) rfl
        have y30_8 := X.out.at_ 8 (.int .i64 (1 + u)) rfl
        have y30_9 := X.out.at_ 9 (.int .i64 0) rfl
        have y30_10 := X.out.at_ 10 (.int .i64 0) rfl
        have y30_11 := X.out.at_ 11 (.int .i64 0) rfl
        have fy30 := X.out.fz
        go_wp2_with fail
        go_meet
        refine ⟨_, _, _, _, _, _, _, _, _, _, _, _, _, ?_, (X.out.put 9 _)⟩
        exact ⟨_, _, _, _, _, _, _, _, _, rfl⟩
      · skip
        have y31_0 := X.out.at_ 0 (.int .i64 2) rfl
        have y31_1 := X.out.at_ 1 (.int .i64 0) rfl
        have y31_2 := X.out.at_ 2 (.slice none 0 0) rfl
        have y31_3 := X.out.at_ 3 (.int .i64 1) rfl
        have y31_4 := X.out.at_ 4 (.int .i64 0) rfl
        have y31_5 := X.out.at_ 5 (.int .i64 0) rfl
        have y31_6 := X.out.at_ 6 (.slice none 0 0) rfl
        have y31_7 := X.out.at_ 7 (.slice none 0 0) rfl
        have y31_8 := X.out.at_ 8 (.int .i64 0) rfl
        have y31_9 := X.out.at_ 9 (.int .i64 0) rfl
        have y31_10 := X.out.at_ 10 (.int .i64 0) rfl
        have y31_11 := X.out.at_ 11 (.int .i64 0) rfl
        have fy31 := X.out.fz
        go_wp2_with fail
        refine (l1Below B g 9 _ (by omega) (by omega) ((X.out.put 3 _)).cur).mono ?_
        rintro e v32 ⟨u, hu0, hu1, rfl, hL⟩
        clear y31_0 y31_1 y31_2 y31_3 y31_4 y31_5 y31_6 y31_7 y31_8 y31_9 y31_10 y31_11 fy31
        have X9 : Hid (EntQ w B g (w.heap.size + 1) [.int .i64 2, .int .i64 0, .slice none 0 0, .int .i64 4, .int .i64 0, .int .i64 0, .slice none 0 0, .slice none 0 0, .int .i64 0, .int .i64 0, .int .i64 0, .int .i64 0] [] none 0 0 [] none 0 0 [] none 0 0 v32) := Lib.hid ((X.out.put 3 _).turn hL)
        clear X hL
        have X := X9
        clear X9
        go_wp2_with fail
        refine (specIntV u _).mono ?_
        rintro e v33 ⟨rfl, hb⟩
        replace X := Lib.hid (X.out.low hb)
        clear hb
        generalize intV u = vv at *
        have y34_0 := X.out.at_ 0 (.int .i64 2) rfl
        have y34_1 := X.out.at_ 1 (.int .i64 0) rfl
        have y34_2 := X.out.at_ 2 (.slice none 0 0) rfl
        have y34_3 := X.out.at_ 3 (.int .i64 4) rfl
        have y34_4 := X.out.at_ 4 (.int .i64 0) rfl
        have y34_5 := X.out.at_ 5 (.int .i64 0) rfl
        have y34_6 := X.out.at_ 6 (.slice none 0 0) rfl
        have y34_7 := X.out.at_ 7 (.slice none 0 0) rfl
        have y34_8 := X.out.at_ 8 (.int .i64 0) rfl
        have y34_9 := X.out.at_ 9 (.int .i64 0) rfl
        have y34_10 := X.out.at_ 10 (.int .i64 0) rfl
        have y34_11 := X.out.at_ 11 (.int .i64 0) rfl
        have fy34 := X.out.fz
        go_wp2_with fail
        refine (l1Below B g 3 _ (by omega) (by omega) (((X.out.put 4 _).put 5 _)).cur).mono ?_
        rintro e v35 ⟨u3, hu30, hu31, rfl, hL⟩
        clear y34_0 y34_1 y34_2 y34_3 y34_4 y34_5 y34_6 y34_7 y34_8 y34_9 y34_10 y34_11 fy34
        have X9 : Hid (EntQ w B g (w.heap.size + 1) [.int .i64 2, .int .i64 0, .slice none 0 0, .int .i64 4, .int .i64 vv.kind, .int .i64 vv.n, .slice none 0 0, .slice none 0 0, .int .i64 0, .int .i64 0, .int .i64 0, .int .i64 0] [] none 0 0 [] none 0 0 [] none 0 0 v35) := Lib.hid (((X.out.put 4 _).put 5 _).turn hL)
        clear X hL
        have X := X9
        clear X9
        have y36_0 := X.out.at_ 0 (.int .i64 2) rfl
        have y36_1 := X.out.at_ 1 (.int .i64 0) rfl
        have y36_2 := X.out.at_ 2 (.slice none 0 0) rfl
        have y36_3 := X.out.at_ 3 (.int .i64 4) rfl
        have y36_4 := X.out.at_ 4 (.int .i64 vv.kind) rfl
        have y36_5 := X.out.at_ 5 (.int .i64 vv.n) rfl
        have y36_6 := X.out.at_ 6 (.slice none 0 0) rfl
        have y36_7 := X.out.at_ 7 (.slice none 0 0) rfl
        have y36_8 := X.out.at_ 8 (.int .i64 0) rfl
        have y36_9 := X.out.at_ 9 (.int .i64 0) rfl
        have y36_10 := X.out.at_ 10 (.int .i64 0) rfl
        have y36_11 := X.out.at_ 11 (.int .i64 0) rfl
        have fy36 := X.out.fz
        go_wp2_with fail
        refine (l1Below B g 5 _ (by omega) (by omega) ((X.out.put 8 _)).cur).mono ?_
        rintro e v37 ⟨u4, hu40, hu41, rfl, hL⟩
        clear y36_0 y36_1 y36_2 y36_3 y36_4 y36_5 y36_6 y36_7 y36_8 y36_9 y36_10 y36_11 fy36
        have X9 : Hid (EntQ w B g (w.heap.size + 1) [.int .i64 2, .int .i64 0, .slice none 0 0, .int .i64 4, .int .i64 vv.kind, .int .i64 vv.n, .slice none 0 0, .slice none 0 0, .int .i64 (1 + u3), .int .i64 0, .int .i64 0, .int .i64 0] [] none 0 0 [] none 0 0 [] none 0 0 v37) := Lib.hid ((X.out.put 8 _).turn hL)
        clear X hL
        have X := X9
        clear X9
        have y38_0 := X.out.at_ 0 (.int .i64 2) rfl
        have y38_1 := X.out.at_ 1 (.int .i64 0) rfl
        have y38_2 := X.out.at_ 2 (.slice none 0 0) rfl
        have y38_3 := X.out.at_ 3 (.int .i64 4) rfl
        have y38_4 := X.out.at_ 4 (.int .i64 vv.kind) rfl
        have y38_5 := X.out.at_ 5 (.int .i64 vv.n) rfl
        have y38_6 := X.out.at_ 6 (.slice none 0 0) rfl
        have y38_7 := X.out.at_ 7 (.slice none 0 0) rfl
        have y38_8 := X.out.at_ 8 (.int .i64 (1 + u3)) rfl
        have y38_9 := X.out.at_ 9 (.int .i64 0) rfl
        have y38_10 := X.out.at_ 10 (.int .i64 0) rfl
        have y38_11 := X.out.at_ 11 (.int .i64 0) rfl
        have fy38 := X.out.fz
        go_wp2_with fail
        go_meet
        refine ⟨_, _, _, _, _, _, _, _, _, _, _, _, _, ?_, (X.out.put 9 _)⟩
        exact ⟨_, _, _, _, _, _, _, _, _, rfl⟩
  case rest =>
    clear X
    obtain ⟨cs, L2, A2, n2, c2, L5, A5, n5, c5, L6, A6, n6, c6, ⟨f0, f1, f3, f4_0, f4_1, f7, f8, f9, f10, rfl⟩, hX⟩ := hcut
    have X := Lib.hid hX
    clear hX
    refine HK2.out _ _ ?_
    clear HK2 K2
    refine wp_seq_k (fun K3 hK3 => ?_)
    have HK3 := Lib.hid hK3
    clear hK3
    go_cut [] from 4 (fun wx => ∃ (cs : List Value) (L2 : List Dat) (A2 : Option Addr) (n2 c2 : Nat) (L5 : List Dat) (A5 : Option Addr) (n5 c5 : Nat) (L6 : List Dat) (A6 : Option Addr) (n6 c6 : Nat) , (∃ (f0 f1 f3 f4_0 f4_1 f7 f8 f9 f10 : Int), cs = [.int .i64 f0, .int .i64 f1, .slice A2 n2 c2, .int .i64 f3, .int .i64 f4_0, .int .i64 f4_1, .slice A5 n5 c5, .slice A6 n6 c6, .int .i64 f7, .int .i64 f8, .int .i64 f9, .int .i64 f10]) ∧ EntQ w B g (w.heap.size + 1) cs L2 A2 n2 c2 L5 A5 n5 c5 L6 A6 n6 c6 wx)
    case first =>
      go_wp2_with fail
      refine (l1Below B g 10 _ (by omega) (by omega) X.out.cur).mono ?_
      rintro e v39 ⟨y, hy0, hy1, rfl, hL⟩
      replace X := Lib.hid (X.out.turn hL)
      clear hL
      by_cases q0 : y = 0
      · subst q0
        go_wp2_with fail
        refine (l1Int_new B g [-1, 5, 999999, 1000000] 4 (-1) 1000000 _ rfl (by intro z hz; simp at hz; omega) (by omega) (by omega) X.out.cur _ (by simp) _).mono ?_
        rintro e v40 ⟨z, -, -, rfl, hL⟩
        replace X := Lib.hid (X.out.turn hL)
        clear hL
        have y41_0 := X.out.at_ 0 (.int .i64 f0) rfl
        have y41_1 := X.out.at_ 1 (.int .i64 f1) rfl
        have y41_2 := X.out.at_ 2 (.slice A2 n2 c2) rfl
        have y41_3 := X.out.at_ 3 (.int .i64 f3) rfl
        have y41_4 := X.out.at_ 4 (.int .i64 f4_0) rfl
        have y41_5 := X.out.at_ 5 (.int .i64 f4_1) rfl
        have y41_6 := X.out.at_ 6 (.slice A5 n5 c5) rfl
        have y41_7 := X.out.at_ 7 (.slice A6 n6 c6) rfl
        have y41_8 := X.out.at_ 8 (.int .i64 f7) rfl
        have y41_9 := X.out.at_ 9 (.int .i64 f8) rfl
        have y41_10 := X.out.at_ 10 (.int .i64 f9) rfl
        have y41_11 := X.out.at_ 11 (.int .i64 f10) rfl
        have fy41 := X.out.fz
        go_wp2_with fail
        go_meet
        refine ⟨_, _, _, _, _, _, _, _, _, _, _, _, _, ?_, (X.out.put 11 _)⟩
        exact ⟨_, _, _, _, _, _, _, _, _, rfl⟩
      by_cases q1 : y = 1
      · subst q1
        go_wp2_with fail
        refine (l1Int_new B g [0, 1, 2] 3 (0) 2 _ rfl (by intro z hz; simp at hz; omega) (by omega) (by omega) X.out.cur _ (by simp) _).mono ?_
        rintro e v42 ⟨z, -, -, rfl, hL⟩
        replace X := Lib.hid (X.out.turn hL)
        clear hL
        have y43_0 := X.out.at_ 0 (.int .i64 f0) rfl
        have y43_1 := X.out.at_ 1 (.int .i64 f1) rfl
        have y43_2 := X.out.at_ 2 (.slice A2 n2 c2) rfl
        have y43_3 := X.out.at_ 3 (.int .i64 f3) rfl
        have y43_4 := X.out.at_ 4 (.int .i64 f4_0) rfl
        have y43_5 := X.out.at_ 5 (.int .i64 f4_1) rfl
        have y43_6 := X.out.at_ 6 (.slice A5 n5 c5) rfl
        have y43_7 := X.out.at_ 7 (.slice A6 n6 c6) rfl
        have y43_8 := X.out.at_ 8 (.int .i64 f7) rfl
        have y43_9 := X.out.at_ 9 (.int .i64 f8) rfl
        have y43_10 := X.out.at_ 10 (.int .i64 f9) rfl
        have y43_11 := X.out.at_ 11 (.int .i64 f10) rfl
        have fy43 := X.out.fz
        go_wp2_with fail
        go_meet
        refine ⟨_, _, _, _, _, _, _, _, _, _, _, _, _, ?_, (X.out.put 10 _)⟩
        exact ⟨_, _, _, _, _, _, _, _, _, rfl⟩
      by_cases q2 : y = 2
      · subst q2
        go_wp2_with fail
        refine (l4Any9 B g _ X.out.cur).mono ?_
        rintro e v44 ⟨vv, rfl, hv9, hL⟩
        replace X := Lib.hid (X.out.turn hL)
        clear hL
        have y45_0 := X.out.at_ 0 (.int .i64 f0) rfl
        have y45_1 := X.out.at_ 1 (.int .i64 f1) rfl
        have y45_2 := X.out.at_ 2 (.slice A2 n2 c2) rfl
        have y45_3 := X.out.at_ 3 (.int .i64 f3) rfl
        have y45_4 := X.out.at_ 4 (.int .i64 f4_0) rfl
        have y45_5 := X.out.at_ 5 (.int .i64 f4_1) rfl
        have y45_6 := X.out.at_ 6 (.slice A5 n5 c5) rfl
        have y45_7 := X.out.at_ 7 (.slice A6 n6 c6) rfl
        have y45_8 := X.out.at_ 8 (.int .i64 f7) rfl
        have y45_9 := X.out.at_ 9 (.int .i64 f8) rfl
        have y45_10 := X.out.at_ 10 (.int .i64 f9) rfl
        have y45_11 := X.out.at_ 11 (.int .i64 f10) rfl
        have fy45 := X.out.fz
        go_wp2_with fail
        go_meet
        refine ⟨_, _, _, _, _, _, _, _, _, _, _, _, _, ?_, ((X.out.put 4 _).put 5 _)⟩
        exact ⟨_, _, _, _, _, _, _, _, _, rfl⟩
      by_cases q3 : y = 3
      · subst q3
        go_wp2_with fail
        refine (l1Below B g 5 _ (by omega) (by omega) X.out.cur).mono ?_
        rintro e v46 ⟨z, hz0, hz1, rfl, hL⟩
        replace X := Lib.hid (X.out.turn hL)
        clear hL
        have y47_0 := X.out.at_ 0 (.int .i64 f0) rfl
        have y47_1 := X.out.at_ 1 (.int .i64 f1) rfl
        have y47_2 := X.out.at_ 2 (.slice A2 n2 c2) rfl
        have y47_3 := X.out.at_ 3 (.int .i64 f3) rfl
        have y47_4 := X.out.at_ 4 (.int .i64 f4_0) rfl
        have y47_5 := X.out.at_ 5 (.int .i64 f4_1) rfl
        have y47_6 := X.out.at_ 6 (.slice A5 n5 c5) rfl
        have y47_7 := X.out.at_ 7 (.slice A6 n6 c6) rfl
        have y47_8 := X.out.at_ 8 (.int .i64 f7) rfl
        have y47_9 := X.out.at_ 9 (.int .i64 f8) rfl
        have y47_10 := X.out.at_ 10 (.int .i64 f9) rfl
        have y47_11 := X.out.at_ 11 (.int .i64 f10) rfl
        have fy47 := X.out.fz
        go_wp2_with fail
        go_meet
        refine ⟨_, _, _, _, _, _, _, _, _, _, _, _, _, ?_, (X.out.put 0 _)⟩
        exact ⟨_, _, _, _, _, _, _, _, _, rfl⟩
      by_cases q4 : y = 4
      · subst q4
        go_wp2_with fail
        refine (l1Int_new B g [0, -1, 2] 3 (-1) 2 _ rfl (by intro z hz; simp at hz; omega) (by omega) (by omega) X.out.cur _ (by simp) _).mono ?_
        rintro e v48 ⟨z, -, -, rfl, hL⟩
        replace X := Lib.hid (X.out.turn hL)
        clear hL
        have y49_0 := X.out.at_ 0 (.int .i64 f0) rfl
        have y49_1 := X.out.at_ 1 (.int .i64 f1) rfl
        have y49_2 := X.out.at_ 2 (.slice A2 n2 c2) rfl
        have y49_3 := X.out.at_ 3 (.int .i64 f3) rfl
        have y49_4 := X.out.at_ 4 (.int .i64 f4_0) rfl
        have y49_5 := X.out.at_ 5 (.int .i64 f4_1) rfl
        have y49_6 := X.out.at_ 6 (.slice A5 n5 c5) rfl
        have y49_7 := X.out.at_ 7 (.slice A6 n6 c6) rfl
        have y49_8 := X.out.at_ 8 (.int .i64 f7) rfl
        have y49_9 := X.out.at_ 9 (.int .i64 f8) rfl
        have y49_10 := X.out.at_ 10 (.int .i64 f9) rfl
        have y49_11 := X.out.at_ 11 (.int .i64 f10) rfl
        have fy49 := X.out.fz
        go_wp2_with fail
        go_meet
        refine ⟨_, _, _, _, _, _, _, _, _, _, _, _, _, ?_, (X.out.put 8 _)⟩
        exact ⟨_, _, _, _, _, _, _, _, _, rfl⟩
      · skip
        have t0 : (y == 0) = false := by simpa using q0
        have t1 : (y == 1) = false := by simpa using q1
        have t2 : (y == 2) = false := by simpa using q2
        have t3 : (y == 3) = false := by simpa using q3
        have t4 : (y == 4) = false := by simpa using q4
        go_wp2_with fail
        go_meet
        refine ⟨_, _, _, _, _, _, _, _, _, _, _, _, _, ?_, X.out⟩
        exact ⟨_, _, _, _, _, _, _, _, _, rfl⟩
    case rest =>
      clear X
      obtain ⟨cs, L2, A2, n2, c2, L5, A5, n5, c5, L6, A6, n6, c6, ⟨f0, f1, f3, f4_0, f4_1, f7, f8, f9, f10, rfl⟩, hX⟩ := hcut
      have X := Lib.hid hX
      clear hX
      refine HK3.out _ _ ?_
      clear HK3 K3
      have y50_0 := X.out.at_ 0 (.int .i64 f0) rfl
      have y50_1 := X.out.at_ 1 (.int .i64 f1) rfl
      have y50_2 := X.out.at_ 2 (.slice A2 n2 c2) rfl
      have y50_3 := X.out.at_ 3 (.int .i64 f3) rfl
      have y50_4 := X.out.at_ 4 (.int .i64 f4_0) rfl
      have y50_5 := X.out.at_ 5 (.int .i64 f4_1) rfl
      have y50_6 := X.out.at_ 6 (.slice A5 n5 c5) rfl
      have y50_7 := X.out.at_ 7 (.slice A6 n6 c6) rfl
      have y50_8 := X.out.at_ 8 (.int .i64 f7) rfl
      have y50_9 := X.out.at_ 9 (.int .i64 f8) rfl
      have y50_10 := X.out.at_ 10 (.int .i64 f9) rfl
      have y50_11 := X.out.at_ 11 (.int .i64 f10) rfl
      have fy50 := X.out.fz
      obtain ⟨q0, q1, q2, q3, q4, q5, q6, q7, q8, q9, q10, q11, fq⟩ := X.out.res
      go_wp2_with (
        with_reducible refine bodyPost_ret (v := .agg #[.int .i64 f0, .int .i64 f1, .slice A2 n2 c2, .int .i64 f3, .int .i64 f4_0, .int .i64 f4_1, .slice A5 n5 c5, .slice A6 n6 c6, .int .i64 f7, .int .i64 f8, .int .i64 f9, .int .i64 f10]) ?hres rfl ?hpost
        case hres => exact results_box rfl _ _ (w.heap.size) [.int .i64 f0, .int .i64 f1, .slice A2 n2 c2, .int .i64 f3, .int .i64 f4_0, .int .i64 f4_1, .slice A5 n5 c5, .slice A6 n6 c6, .int .i64 f7, .int .i64 f8, .int .i64 f9, .int .i64 f10] _ rfl ((((((((((((X.out.2.1.2.1.put 0 _).put 1 _).put 2 _).put 3 _).put 4 _).put 5 _).put 6 _).put 7 _).put 8 _).put 9 _).put 10 _).put 11 _) Try.underlying30 rfl (by kernel_rfl)
        case hpost =>
          have lb : w.heap.size ≤ w.heap.size := Nat.le_refl _
          have le : w.heap.size = w.heap.size := rfl
          refine X.out.done ?hbb ?htt
          case hbb => exact (((((((((((((Below.refl w.heap.size _).setCell lb _).setCell lb _).setCell lb _).setCell lb _).setCell lb _).setCell lb _).setCell lb _).setCell lb _).setCell lb _).setCell lb _).setCell lb _).setCell lb _)
          case htt => exact (((((((((((((Touch.refl (fun b => b = w.heap.size) _).setCell le _).setCell le _).setCell le _).setCell le _).setCell le _).setCell le _).setCell le _).setCell le _).setCell le _).setCell le _).setCell le _).setCell le _))
end Go.Proofs.Ytfgijebgnkikpaa
