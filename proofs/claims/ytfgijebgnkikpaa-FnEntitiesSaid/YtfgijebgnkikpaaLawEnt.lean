/- FnEntities. -/
import Derived.Test.YtfgijebgnkikpaaDraw9F
import Derived.Test.YtfgijebgnkikpaaDraw9G
import Derived.Test.YtfgijebgnkikpaaIsET
import Derived.Test.YtfgijebgnkikpaaIsEI
import Derived.Test.YtfgijebgnkikpaaEqE9
import Derived.Test.YtfgijebgnkikpaaNewO
import Derived.Test.YtfgijebgnkikpaaNewE
import Derived.Test.YtfgijebgnkikpaaPendE
import Derived.Test.YtfgijebgnkikpaaLawE0
import Derived.Deep.RegionHeld3
import Derived.LoopTactic
import Derived.Lib.Hide
import Derived.Deep.QuietTactic
import Derived.BigQuiet
import Derived.Deep.RegionWith
import Derived.Handy
namespace Go.Proofs.Ytfgijebgnkikpaa
open Go.RowKit
set_option linter.unusedVariables false
set_option linter.unusedSimpArgs false
theorem implSlotX (f0 : Int) (f1 : Int) (L2 : List Dat) (A2 : Option Addr) (n2 c2 : Nat) (f3 : Int) (f4_0 : Int) (f4_1 : Int) (L5 : List Dat) (A5 : Option Addr) (n5 c5 : Nat) (L6 : List Dat) (A6 : Option Addr) (n6 c6 : Nat) (f7 : Int) (f8 : Int) (f9 : Int) (f10 : Int) (i a b : Int) (w : World) (hs : slotV L2 i = ⟨a, b⟩) (hl : Lies w (.l L2) [.slice A2 n2 c2]) (ht : ∀ x ∈ L2, Has tyValue x) (hn : n2 ≤ 1099511627776) (hi : -9223372036854775808 ≤ i ∧ i ≤ 9223372036854775807) :
    Calls Try.prog 17 #[.agg #[.int .i64 f0, .int .i64 f1, .slice A2 n2 c2, .int .i64 f3, .int .i64 f4_0, .int .i64 f4_1, .slice A5 n5 c5, .slice A6 n6 c6, .int .i64 f7, .int .i64 f8, .int .i64 f9, .int .i64 f10], .int .i64 i] w (GivesX (.agg #[.int .i64 a, .int .i64 b]) w) := (implSlot f0 f1 L2 A2 n2 c2 f3 f4_0 f4_1 L5 A5 n5 c5 L6 A6 n6 c6 f7 f8 f9 f10 i w hl ht hn hi).mono fun e w' h => by
  obtain ⟨rfl, hb⟩ := h
  rw [hs]
  exact ⟨rfl, hb⟩
theorem intV0 (w : World) : Calls Try.prog 21 #[.int .i64 0] w (GivesX (.agg #[.int .i64 0, .int .i64 0]) w) := (implIntV 0 w).mono fun e w' h => by
  obtain ⟨rfl, hb⟩ := h
  exact ⟨rfl, hb⟩
theorem eq1_comm9 (d d' : Dat) : eq1 d' d = eq1 d d' := by rw [Bool.eq_iff_iff, eq1_iff, eq1_iff]; exact eq_comm
theorem pend21 : pend 2 1 = true := pend_yes ⟨rfl, Or.inl rfl⟩
theorem prom_ent : entB 2 0 (vs []) 0 1 0 0 0 0 0 0 0 0 1 = true := by decide
theorem gb {u v : Bool} {f : Nat} {va : Array Value} {w : World} (h : Calls Try.prog f va w (GivesBool u w)) (e : u = v) : Calls Try.prog f va w (GivesBool v w) := by subst e; exact h
theorem entProm (w : World) : Calls Try.prog 18 #[.agg #[.int .i64 2, .int .i64 0, .slice none 0 0, .int .i64 1, .int .i64 0, .int .i64 0, .slice none 0 0, .slice none 0 0, .int .i64 0, .int .i64 0, .int .i64 0, .int .i64 0], .int .i64 1] w (GivesBool true w) := gb (implIsEnt 2 0 [] none 0 0 1 0 0 [] none 0 0 [] none 0 0 0 0 0 0 1 _ (nil_lies9 _) (fun x h => by cases h) (by omega) (nil_lies9 _) (fun x h => by cases h) (by omega) (nil_lies9 _) (fun x h => by cases h) (by omega) (by simp [Dat.bulk, bulkAll]) (by omega) (by omega) (by omega)) prom_ent
theorem pendProm (w : World) : Calls Try.prog 23 #[.agg #[.int .i64 2, .int .i64 0, .slice none 0 0, .int .i64 1, .int .i64 0, .int .i64 0, .slice none 0 0, .slice none 0 0, .int .i64 0, .int .i64 0, .int .i64 0, .int .i64 0]] w (GivesBool true w) := gb (implIsPend 2 0 [] none 0 0 1 0 0 [] none 0 0 [] none 0 0 0 0 0 0 _) pend21
set_option maxRecDepth 100000 in
set_option maxHeartbeats 32000000 in
theorem law_Entities (A : Option Addr) (n c : Nat) (W : World) (hC : Code W A n) : Calls Try.prog 3 #[.slice A n c] W (GivesBool true W) := by
  have HC := Lib.hid hC
  clear hC
  by_cases hn : n ≤ 1048576
  · go_enter Try.func3, Try.ntmps3
    have X := Lib.hid (St.start W)
    go_wp2_with fail
    refine (big_no A n c _ hn).mono ?_
    rintro e w' ⟨rfl, rfl⟩
    go_wp2_with fail
    refine (drawIsEnt A n c _ HC.out hn).mono ?_
    rintro e w1 ⟨f0, f1, L2, A2, n2, c2, f3, f4_0, f4_1, L5, A5, n5, c5, L6, A6, n6, c6, f7, f8, f9, f10, en, rfl, ⟨⟨ea2, ea5, ea6⟩, ⟨ht2, hn2⟩, ⟨ht5, hq5⟩, ⟨ht6, hn6⟩⟩, hb⟩
    have hn5 : n5 ≤ 1000 := by have h1 := ea5.count; have h2 := hq5; simp only [Dat.bulk] at h2; omega
    have HT2 := Lib.hid ht2
    have HT5 := Lib.hid ht5
    have HT6 := Lib.hid ht6
    have HQ5 := Lib.hid hq5
    clear ht2 ht5 ht6 hq5
    replace X := Lib.hid ((((X.out.below hb).lie ea2).lie ea5).lie ea6)
    clear hb ea2 ea5 ea6
    replace X := Lib.hid (X.out.push #[.int .i64 f0, .int .i64 f1, .slice A2 n2 c2, .int .i64 f3, .int .i64 f4_0, .int .i64 f4_1, .slice A5 n5 c5, .slice A6 n6 c6, .int .i64 f7, .int .i64 f8, .int .i64 f9, .int .i64 f10] 30)
    go_wp2_with fail
    refine (drawEqEnt A n c _ (HC.out.lowF X.out.low) hn).mono ?_
    rintro e w2 ⟨g0, g1, M2, B2, m2, k2, g3, g4_0, g4_1, M5, B5, m5, k5, M6, B6, m6, k6, g7, g8, g9, g10, h0, h1, P2, D2, o2, d2, h3, h4_0, h4_1, P5, D5, o5, d5, P6, D6, o6, d6, h7, h8, h9, h10, rfl, ⟨⟨eag2, eag5, eag6⟩, ⟨htg2, hng2⟩, ⟨htg5, hqg5⟩, ⟨htg6, hng6⟩⟩, ⟨⟨eah2, eah5, eah6⟩, ⟨hth2, hnh2⟩, ⟨hth5, hqh5⟩, ⟨hth6, hnh6⟩⟩, hb⟩
    have hng5 : m5 ≤ 1000 := by have h1 := eag5.count; have h2 := hqg5; simp only [Dat.bulk] at h2; omega
    have HTg2 := Lib.hid htg2
    have HTg5 := Lib.hid htg5
    have HTg6 := Lib.hid htg6
    have HQg5 := Lib.hid hqg5
    clear htg2 htg5 htg6 hqg5
    have hnh5 : o5 ≤ 1000 := by have h1 := eah5.count; have h2 := hqh5; simp only [Dat.bulk] at h2; omega
    have HTh2 := Lib.hid hth2
    have HTh5 := Lib.hid hth5
    have HTh6 := Lib.hid hth6
    have HQh5 := Lib.hid hqh5
    clear hth2 hth5 hth6 hqh5
    replace X := Lib.hid (((((((X.out.below hb).lie eag2).lie eag5).lie eag6).lie eah2).lie eah5).lie eah6)
    clear hb eag2 eag5 eag6 eah2 eah5 eah6
    replace X := Lib.hid (X.out.push #[.int .i64 g0, .int .i64 g1, .slice B2 m2 k2, .int .i64 g3, .int .i64 g4_0, .int .i64 g4_1, .slice B5 m5 k5, .slice B6 m6 k6, .int .i64 g7, .int .i64 g8, .int .i64 g9, .int .i64 g10] 30)
    replace X := Lib.hid (X.out.push #[.int .i64 h0, .int .i64 h1, .slice D2 o2 d2, .int .i64 h3, .int .i64 h4_0, .int .i64 h4_1, .slice D5 o5 d5, .slice D6 o6 d6, .int .i64 h7, .int .i64 h8, .int .i64 h9, .int .i64 h10] 30)
    simp only [World.size_alloc] at X
    go_wp2_with fail
    refine (drawNewObj A n c _ (HC.out.lowF X.out.low) hn).mono ?_
    rintro e w3 ⟨s, As, ns, cs, Ls, rfl, hls, hts, hns, hb⟩
    have HTS := Lib.hid hts
    have HCS := Lib.hid hls.count
    clear hts
    replace X := Lib.hid ((X.out.below hb).lie hls)
    clear hb hls
    go_wp2_with fail
    refine (implNewObj s Ls As ns cs _ (X.out.lies (d := .l Ls) (cs := [.slice As ns cs]) (by repeat (first | exact List.mem_cons_self | refine List.mem_cons_of_mem _ ?_))) HTS.out (by omega)).mono ?_
    rintro e w4 ⟨Ax, cx, rfl, hO, hb⟩
    replace X := Lib.hid ((X.out.below hb).lie hO.lies)
    clear hb hO
    replace X := Lib.hid (X.out.push #[.int .i64 1, .int .i64 s, .slice Ax ns cx, .int .i64 0, .int .i64 0, .int .i64 0, .slice none 0 0, .slice none 0 0, .int .i64 0, .int .i64 0, .int .i64 0, .int .i64 0] 30)
    go_wp2_with fail
    generalize w4.alloc (.cells #[.int .i64 1, .int .i64 s, .slice Ax ns cx, .int .i64 0, .int .i64 0, .int .i64 0, .slice none 0 0, .slice none 0 0, .int .i64 0, .int .i64 0, .int .i64 0, .int .i64 0] 30) = wx at X ⊢
    go_loopw [10] (fun iv wr => ∃ i : Nat, i ≤ ns ∧ iv = .int .i64 i ∧ Below wx.heap.size wx wr) (fun iv _ => ns - (intOf iv).toNat)
    case atStart => exact ⟨0, Nat.zero_le _, rfl, Below.refl _ _⟩
    case round =>
      rename World => wo
      obtain ⟨i, hin, rfl, hb⟩ := hrel
      replace X := Lib.hid (X.out.below hb)
      have HB := Lib.hid hb
      clear hb
      by_cases hlt : i < ns
      · skip
        obtain ⟨b, off, d, xs, rfl, hbw, hzi, hlie, hlen, hcell⟩ := (X.out.lies (d := .l Ls) (cs := [.slice As ns cs]) (by repeat (first | exact List.mem_cons_self | refine List.mem_cons_of_mem _ ?_))).elem (fun x hx => (HTS.out x hx).width) hlt
        obtain ⟨a0, a1, rfl, rfl⟩ := invValue (HTS.out d (List.mem_of_getElem? hzi)) hlie
        have HR0 : Hid (wo.cell? ⟨b, off + i * 2, none⟩ = some (.int .i64 a0)) := Lib.hid (hcell 0 _ rfl)
        have HR1 : Hid (wo.cell? ⟨b, off + i * 2 + 1, none⟩ = some (.int .i64 a1)) := Lib.hid (hcell 1 _ rfl)
        have HSV := Lib.hid (slotV_at hzi)
        clear hcell hlie hlen hzi
        obtain ⟨x0, x1, x2, x3, x4, x5, x6, x7, x8, x9, x10, x11⟩ := (X.out.1.box (g := w4.heap.size) (cs := [.int .i64 1, .int .i64 s, .slice Ax ns cx, .int .i64 0, .int .i64 0, .int .i64 0, .slice none 0 0, .slice none 0 0, .int .i64 0, .int .i64 0, .int .i64 0, .int .i64 0]) (by repeat (first | exact List.mem_cons_self | refine List.mem_cons_of_mem _ ?_))).c12
        have r0 := HR0.out
        have r1 := HR1.out
        go_wp2_with fail
        replace X := Lib.hid X.out.drew
        have HB0 : Hid (Below wo.heap.size wo wo.drew) := Lib.hid (Below.refl _ _).drew
        have t0 : wo.drew.cell? ⟨b, off + i * 2, none⟩ = some (.int .i64 a0) := cell_lowV HB0.out hbw HR0.out
        have t1 : wo.drew.cell? ⟨b, off + i * 2 + 1, none⟩ = some (.int .i64 a1) := cell_lowV HB0.out hbw HR1.out
        clear r0 r1
        go_region_held3 (fun w' => (w'.cell? ⟨w4.heap.size, 0, none⟩ = some (.int .i64 1) ∧ w'.cell? ⟨w4.heap.size, 1, none⟩ = some (.int .i64 s) ∧ w'.cell? ⟨w4.heap.size, 2, none⟩ = some (.slice Ax ns cx) ∧ w'.cell? ⟨w4.heap.size, 3, none⟩ = some (.int .i64 0) ∧ w'.cell? ⟨w4.heap.size, 4, none⟩ = some (.int .i64 0) ∧ w'.cell? ⟨w4.heap.size, 5, none⟩ = some (.int .i64 0) ∧ w'.cell? ⟨w4.heap.size, 6, none⟩ = some (.slice none 0 0) ∧ w'.cell? ⟨w4.heap.size, 7, none⟩ = some (.slice none 0 0) ∧ w'.cell? ⟨w4.heap.size, 8, none⟩ = some (.int .i64 0) ∧ w'.cell? ⟨w4.heap.size, 9, none⟩ = some (.int .i64 0) ∧ w'.cell? ⟨w4.heap.size, 10, none⟩ = some (.int .i64 0) ∧ w'.cell? ⟨w4.heap.size, 11, none⟩ = some (.int .i64 0)) ∧ w'.cell? ⟨b, off + i * 2, none⟩ = some (.int .i64 a0) ∧ w'.cell? ⟨b, off + i * 2 + 1, none⟩ = some (.int .i64 a1))
          (first | with_reducible exact ⟨(X.out.c12 (b := w4.heap.size) (v0 := .int .i64 1) (v1 := .int .i64 s) (v2 := .slice Ax ns cx) (v3 := .int .i64 0) (v4 := .int .i64 0) (v5 := .int .i64 0) (v6 := .slice none 0 0) (v7 := .slice none 0 0) (v8 := .int .i64 0) (v9 := .int .i64 0) (v10 := .int .i64 0) (v11 := .int .i64 0) (by repeat (first | exact List.mem_cons_self | refine List.mem_cons_of_mem _ ?_))), cell_lowV HB0.out hbw HR0.out, cell_lowV HB0.out hbw HR1.out⟩ | go_keep)
          (first | (go_at_call 17; (with_reducible refine (implSlotX 1 s Ls Ax ns cx 0 0 0 [] none 0 0 [] none 0 0 0 0 0 0 (i : Int) a0 a1 _ HSV.out (X.out.lies (d := .l Ls) (cs := [.slice Ax ns cx]) (by repeat (first | exact List.mem_cons_self | refine List.mem_cons_of_mem _ ?_))) HTS.out (by omega) (by omega)).mono ?_); rintro e w6 ⟨rfl, hb5⟩; replace X := Lib.hid (X.out.below hb5); replace HB0 := Lib.hid (HB0.out.trans (hb5.mono HB0.out.size)); clear hb5))
        all_goals (
          go_wp2_with fail
          go_roundw
          case rel => exact ⟨i + 1, by omega, by go_num, HB.out.trans (HB0.out.mono HB.out.size)⟩
          case measure => (simp [intOf]; try omega))
      · skip
        obtain rfl : ns = i := by omega
        clear HB
        obtain ⟨x0, x1, x2, x3, x4, x5, x6, x7, x8, x9, x10, x11⟩ := (X.out.1.box (g := w1.heap.size) (cs := [.int .i64 f0, .int .i64 f1, .slice A2 n2 c2, .int .i64 f3, .int .i64 f4_0, .int .i64 f4_1, .slice A5 n5 c5, .slice A6 n6 c6, .int .i64 f7, .int .i64 f8, .int .i64 f9, .int .i64 f10]) (by repeat (first | exact List.mem_cons_self | refine List.mem_cons_of_mem _ ?_))).c12
        obtain ⟨y0, y1, y2, y3, y4, y5, y6, y7, y8, y9, y10, y11⟩ := (X.out.1.box (g := w2.heap.size) (cs := [.int .i64 g0, .int .i64 g1, .slice B2 m2 k2, .int .i64 g3, .int .i64 g4_0, .int .i64 g4_1, .slice B5 m5 k5, .slice B6 m6 k6, .int .i64 g7, .int .i64 g8, .int .i64 g9, .int .i64 g10]) (by repeat (first | exact List.mem_cons_self | refine List.mem_cons_of_mem _ ?_))).c12
        obtain ⟨z0, z1, z2, z3, z4, z5, z6, z7, z8, z9, z10, z11⟩ := (X.out.1.box (g := w2.heap.size + 1) (cs := [.int .i64 h0, .int .i64 h1, .slice D2 o2 d2, .int .i64 h3, .int .i64 h4_0, .int .i64 h4_1, .slice D5 o5 d5, .slice D6 o6 d6, .int .i64 h7, .int .i64 h8, .int .i64 h9, .int .i64 h10]) (by repeat (first | exact List.mem_cons_self | refine List.mem_cons_of_mem _ ?_))).c12
        obtain ⟨q0, q1, q2, q3, q4, q5, q6, q7, q8, q9, q10, q11⟩ := (X.out.1.box (g := w4.heap.size) (cs := [.int .i64 1, .int .i64 s, .slice Ax ns cx, .int .i64 0, .int .i64 0, .int .i64 0, .slice none 0 0, .slice none 0 0, .int .i64 0, .int .i64 0, .int .i64 0, .int .i64 0]) (by repeat (first | exact List.mem_cons_self | refine List.mem_cons_of_mem _ ?_))).c12
        obtain ⟨v1, hv1⟩ : ∃ v, entB f0 f1 (vs L2) n2 f3 f4_0 f4_1 n5 n6 f7 f8 f9 f10 en = v := ⟨_, rfl⟩
        have HV1 := Lib.hid hv1
        obtain ⟨v2, hv2⟩ : ∃ v, eq1 (.r [.i g0, .i g1, .l M2, .i g3, .r [.i g4_0, .i g4_1], .l M5, .l M6, .i g7, .i g8, .i g9, .i g10]) (.r [.i h0, .i h1, .l P2, .i h3, .r [.i h4_0, .i h4_1], .l P5, .l P6, .i h7, .i h8, .i h9, .i h10]) = v := ⟨_, rfl⟩
        have HV2 := Lib.hid hv2
        obtain ⟨v3, hv3⟩ : ∃ v, pend f0 f3 = v := ⟨_, rfl⟩
        have HV3 := Lib.hid hv3
        clear hv1 hv2 hv3
        have HSN := Lib.hid (slotV_no (i := (ns : Int)) HCS.out (by omega))
        go_wp2_with fail
        replace X := Lib.hid X.out.drew
        go_region_held3 (fun w' => (w'.cell? ⟨w1.heap.size, 0, none⟩ = some (.int .i64 f0) ∧ w'.cell? ⟨w1.heap.size, 1, none⟩ = some (.int .i64 f1) ∧ w'.cell? ⟨w1.heap.size, 2, none⟩ = some (.slice A2 n2 c2) ∧ w'.cell? ⟨w1.heap.size, 3, none⟩ = some (.int .i64 f3) ∧ w'.cell? ⟨w1.heap.size, 4, none⟩ = some (.int .i64 f4_0) ∧ w'.cell? ⟨w1.heap.size, 5, none⟩ = some (.int .i64 f4_1) ∧ w'.cell? ⟨w1.heap.size, 6, none⟩ = some (.slice A5 n5 c5) ∧ w'.cell? ⟨w1.heap.size, 7, none⟩ = some (.slice A6 n6 c6) ∧ w'.cell? ⟨w1.heap.size, 8, none⟩ = some (.int .i64 f7) ∧ w'.cell? ⟨w1.heap.size, 9, none⟩ = some (.int .i64 f8) ∧ w'.cell? ⟨w1.heap.size, 10, none⟩ = some (.int .i64 f9) ∧ w'.cell? ⟨w1.heap.size, 11, none⟩ = some (.int .i64 f10)) ∧ (w'.cell? ⟨w2.heap.size, 0, none⟩ = some (.int .i64 g0) ∧ w'.cell? ⟨w2.heap.size, 1, none⟩ = some (.int .i64 g1) ∧ w'.cell? ⟨w2.heap.size, 2, none⟩ = some (.slice B2 m2 k2) ∧ w'.cell? ⟨w2.heap.size, 3, none⟩ = some (.int .i64 g3) ∧ w'.cell? ⟨w2.heap.size, 4, none⟩ = some (.int .i64 g4_0) ∧ w'.cell? ⟨w2.heap.size, 5, none⟩ = some (.int .i64 g4_1) ∧ w'.cell? ⟨w2.heap.size, 6, none⟩ = some (.slice B5 m5 k5) ∧ w'.cell? ⟨w2.heap.size, 7, none⟩ = some (.slice B6 m6 k6) ∧ w'.cell? ⟨w2.heap.size, 8, none⟩ = some (.int .i64 g7) ∧ w'.cell? ⟨w2.heap.size, 9, none⟩ = some (.int .i64 g8) ∧ w'.cell? ⟨w2.heap.size, 10, none⟩ = some (.int .i64 g9) ∧ w'.cell? ⟨w2.heap.size, 11, none⟩ = some (.int .i64 g10)) ∧ (w'.cell? ⟨w2.heap.size + 1, 0, none⟩ = some (.int .i64 h0) ∧ w'.cell? ⟨w2.heap.size + 1, 1, none⟩ = some (.int .i64 h1) ∧ w'.cell? ⟨w2.heap.size + 1, 2, none⟩ = some (.slice D2 o2 d2) ∧ w'.cell? ⟨w2.heap.size + 1, 3, none⟩ = some (.int .i64 h3) ∧ w'.cell? ⟨w2.heap.size + 1, 4, none⟩ = some (.int .i64 h4_0) ∧ w'.cell? ⟨w2.heap.size + 1, 5, none⟩ = some (.int .i64 h4_1) ∧ w'.cell? ⟨w2.heap.size + 1, 6, none⟩ = some (.slice D5 o5 d5) ∧ w'.cell? ⟨w2.heap.size + 1, 7, none⟩ = some (.slice D6 o6 d6) ∧ w'.cell? ⟨w2.heap.size + 1, 8, none⟩ = some (.int .i64 h7) ∧ w'.cell? ⟨w2.heap.size + 1, 9, none⟩ = some (.int .i64 h8) ∧ w'.cell? ⟨w2.heap.size + 1, 10, none⟩ = some (.int .i64 h9) ∧ w'.cell? ⟨w2.heap.size + 1, 11, none⟩ = some (.int .i64 h10)) ∧ (w'.cell? ⟨w4.heap.size, 0, none⟩ = some (.int .i64 1) ∧ w'.cell? ⟨w4.heap.size, 1, none⟩ = some (.int .i64 s) ∧ w'.cell? ⟨w4.heap.size, 2, none⟩ = some (.slice Ax ns cx) ∧ w'.cell? ⟨w4.heap.size, 3, none⟩ = some (.int .i64 0) ∧ w'.cell? ⟨w4.heap.size, 4, none⟩ = some (.int .i64 0) ∧ w'.cell? ⟨w4.heap.size, 5, none⟩ = some (.int .i64 0) ∧ w'.cell? ⟨w4.heap.size, 6, none⟩ = some (.slice none 0 0) ∧ w'.cell? ⟨w4.heap.size, 7, none⟩ = some (.slice none 0 0) ∧ w'.cell? ⟨w4.heap.size, 8, none⟩ = some (.int .i64 0) ∧ w'.cell? ⟨w4.heap.size, 9, none⟩ = some (.int .i64 0) ∧ w'.cell? ⟨w4.heap.size, 10, none⟩ = some (.int .i64 0) ∧ w'.cell? ⟨w4.heap.size, 11, none⟩ = some (.int .i64 0)))
          (first | with_reducible exact ⟨(X.out.c12 (b := w1.heap.size) (v0 := .int .i64 f0) (v1 := .int .i64 f1) (v2 := .slice A2 n2 c2) (v3 := .int .i64 f3) (v4 := .int .i64 f4_0) (v5 := .int .i64 f4_1) (v6 := .slice A5 n5 c5) (v7 := .slice A6 n6 c6) (v8 := .int .i64 f7) (v9 := .int .i64 f8) (v10 := .int .i64 f9) (v11 := .int .i64 f10) (by repeat (first | exact List.mem_cons_self | refine List.mem_cons_of_mem _ ?_))), (X.out.c12 (b := w2.heap.size) (v0 := .int .i64 g0) (v1 := .int .i64 g1) (v2 := .slice B2 m2 k2) (v3 := .int .i64 g3) (v4 := .int .i64 g4_0) (v5 := .int .i64 g4_1) (v6 := .slice B5 m5 k5) (v7 := .slice B6 m6 k6) (v8 := .int .i64 g7) (v9 := .int .i64 g8) (v10 := .int .i64 g9) (v11 := .int .i64 g10) (by repeat (first | exact List.mem_cons_self | refine List.mem_cons_of_mem _ ?_))), (X.out.c12 (b := w2.heap.size + 1) (v0 := .int .i64 h0) (v1 := .int .i64 h1) (v2 := .slice D2 o2 d2) (v3 := .int .i64 h3) (v4 := .int .i64 h4_0) (v5 := .int .i64 h4_1) (v6 := .slice D5 o5 d5) (v7 := .slice D6 o6 d6) (v8 := .int .i64 h7) (v9 := .int .i64 h8) (v10 := .int .i64 h9) (v11 := .int .i64 h10) (by repeat (first | exact List.mem_cons_self | refine List.mem_cons_of_mem _ ?_))), (X.out.c12 (b := w4.heap.size) (v0 := .int .i64 1) (v1 := .int .i64 s) (v2 := .slice Ax ns cx) (v3 := .int .i64 0) (v4 := .int .i64 0) (v5 := .int .i64 0) (v6 := .slice none 0 0) (v7 := .slice none 0 0) (v8 := .int .i64 0) (v9 := .int .i64 0) (v10 := .int .i64 0) (v11 := .int .i64 0) (by repeat (first | exact List.mem_cons_self | refine List.mem_cons_of_mem _ ?_)))⟩ | go_keep)
          (first
          | (go_at_call 18; (with_reducible refine (gb (implIsEnt f0 f1 L2 A2 n2 c2 f3 f4_0 f4_1 L5 A5 n5 c5 L6 A6 n6 c6 f7 f8 f9 f10 en _ (X.out.lies (d := .l L2) (cs := [.slice A2 n2 c2]) (by repeat (first | exact List.mem_cons_self | refine List.mem_cons_of_mem _ ?_))) HT2.out (by omega) (X.out.lies (d := .l L5) (cs := [.slice A5 n5 c5]) (by repeat (first | exact List.mem_cons_self | refine List.mem_cons_of_mem _ ?_))) HT5.out (by omega) (X.out.lies (d := .l L6) (cs := [.slice A6 n6 c6]) (by repeat (first | exact List.mem_cons_self | refine List.mem_cons_of_mem _ ?_))) HT6.out (by omega) (by have := HQ5.out; omega) (by omega) (by omega) (by omega)) HV1.out).mono ?_); rintro e v9 ⟨rfl, hb5⟩; replace X := Lib.hid (X.out.below hb5); clear hb5)
          | (go_at_call 18; (with_reducible refine (entProm _).mono ?_); rintro e v9 ⟨rfl, hb5⟩; replace X := Lib.hid (X.out.below hb5); clear hb5)
          | (go_at_call 19; (with_reducible refine (gb (specIsEnt f0 f1 L2 A2 n2 c2 f3 f4_0 f4_1 L5 A5 n5 c5 L6 A6 n6 c6 f7 f8 f9 f10 en _ (X.out.lies (d := .l L2) (cs := [.slice A2 n2 c2]) (by repeat (first | exact List.mem_cons_self | refine List.mem_cons_of_mem _ ?_))) HT2.out (by omega) (X.out.lies (d := .l L5) (cs := [.slice A5 n5 c5]) (by repeat (first | exact List.mem_cons_self | refine List.mem_cons_of_mem _ ?_))) HT5.out (by omega) (X.out.lies (d := .l L6) (cs := [.slice A6 n6 c6]) (by repeat (first | exact List.mem_cons_self | refine List.mem_cons_of_mem _ ?_))) HT6.out (by omega)) HV1.out).mono ?_); rintro e v9 ⟨rfl, hb5⟩; replace X := Lib.hid (X.out.below hb5); clear hb5)
          | (go_at_call 20; (with_reducible refine (gb (implEqEnt g0 g1 M2 B2 m2 k2 g3 g4_0 g4_1 M5 B5 m5 k5 M6 B6 m6 k6 g7 g8 g9 g10 h0 h1 P2 D2 o2 d2 h3 h4_0 h4_1 P5 D5 o5 d5 P6 D6 o6 d6 h7 h8 h9 h10 _ (X.out.lies (d := .l M2) (cs := [.slice B2 m2 k2]) (by repeat (first | exact List.mem_cons_self | refine List.mem_cons_of_mem _ ?_))) (X.out.lies (d := .l P2) (cs := [.slice D2 o2 d2]) (by repeat (first | exact List.mem_cons_self | refine List.mem_cons_of_mem _ ?_))) HTg2.out HTh2.out (by omega) (X.out.lies (d := .l M5) (cs := [.slice B5 m5 k5]) (by repeat (first | exact List.mem_cons_self | refine List.mem_cons_of_mem _ ?_))) (X.out.lies (d := .l P5) (cs := [.slice D5 o5 d5]) (by repeat (first | exact List.mem_cons_self | refine List.mem_cons_of_mem _ ?_))) HTg5.out HTh5.out (by have := HQg5.out; omega) (by omega) (X.out.lies (d := .l M6) (cs := [.slice B6 m6 k6]) (by repeat (first | exact List.mem_cons_self | refine List.mem_cons_of_mem _ ?_))) (X.out.lies (d := .l P6) (cs := [.slice D6 o6 d6]) (by repeat (first | exact List.mem_cons_self | refine List.mem_cons_of_mem _ ?_))) HTg6.out HTh6.out (by omega)) HV2.out).mono ?_); rintro e v9 ⟨rfl, hb5⟩; replace X := Lib.hid (X.out.below hb5); clear hb5)
          | (go_at_call 20; (with_reducible refine (gb (implEqEnt h0 h1 P2 D2 o2 d2 h3 h4_0 h4_1 P5 D5 o5 d5 P6 D6 o6 d6 h7 h8 h9 h10 g0 g1 M2 B2 m2 k2 g3 g4_0 g4_1 M5 B5 m5 k5 M6 B6 m6 k6 g7 g8 g9 g10 _ (X.out.lies (d := .l P2) (cs := [.slice D2 o2 d2]) (by repeat (first | exact List.mem_cons_self | refine List.mem_cons_of_mem _ ?_))) (X.out.lies (d := .l M2) (cs := [.slice B2 m2 k2]) (by repeat (first | exact List.mem_cons_self | refine List.mem_cons_of_mem _ ?_))) HTh2.out HTg2.out (by omega) (X.out.lies (d := .l P5) (cs := [.slice D5 o5 d5]) (by repeat (first | exact List.mem_cons_self | refine List.mem_cons_of_mem _ ?_))) (X.out.lies (d := .l M5) (cs := [.slice B5 m5 k5]) (by repeat (first | exact List.mem_cons_self | refine List.mem_cons_of_mem _ ?_))) HTh5.out HTg5.out (by have := HQh5.out; omega) (by omega) (X.out.lies (d := .l P6) (cs := [.slice D6 o6 d6]) (by repeat (first | exact List.mem_cons_self | refine List.mem_cons_of_mem _ ?_))) (X.out.lies (d := .l M6) (cs := [.slice B6 m6 k6]) (by repeat (first | exact List.mem_cons_self | refine List.mem_cons_of_mem _ ?_))) HTh6.out HTg6.out (by omega)) ((eq1_comm9 _ _).trans HV2.out)).mono ?_); rintro e v9 ⟨rfl, hb5⟩; replace X := Lib.hid (X.out.below hb5); clear hb5)
          | (go_at_call 17; (with_reducible refine (implSlotX 1 s Ls Ax ns cx 0 0 0 [] none 0 0 [] none 0 0 0 0 0 0 (ns : Int) 0 0 _ HSN.out (X.out.lies (d := .l Ls) (cs := [.slice Ax ns cx]) (by repeat (first | exact List.mem_cons_self | refine List.mem_cons_of_mem _ ?_))) HTS.out (by omega) (by omega)).mono ?_); rintro e v9 ⟨rfl, hb5⟩; replace X := Lib.hid (X.out.below hb5); clear hb5)
          | (go_at_call 21; (with_reducible refine (intV0 _).mono ?_); rintro e v9 ⟨rfl, hb5⟩; replace X := Lib.hid (X.out.below hb5); clear hb5)
          | (go_at_call 22; (with_reducible refine (implNewProm (w := _)).mono ?_); rintro e v9 ⟨rfl, hb5⟩; replace X := Lib.hid (X.out.below hb5); clear hb5)
          | (go_at_call 23; (with_reducible refine (gb (implIsPend f0 f1 L2 A2 n2 c2 f3 f4_0 f4_1 L5 A5 n5 c5 L6 A6 n6 c6 f7 f8 f9 f10 _) HV3.out).mono ?_); rintro e v9 ⟨rfl, hb5⟩; replace X := Lib.hid (X.out.below hb5); clear hb5)
          | (go_at_call 23; (with_reducible refine (pendProm _).mono ?_); rintro e v9 ⟨rfl, hb5⟩; replace X := Lib.hid (X.out.below hb5); clear hb5)
          | (go_at_call 24; (with_reducible refine (gb (specIsPend f0 f1 L2 A2 n2 c2 f3 f4_0 f4_1 L5 A5 n5 c5 L6 A6 n6 c6 f7 f8 f9 f10 _) HV3.out).mono ?_); rintro e v9 ⟨rfl, hb5⟩; replace X := Lib.hid (X.out.below hb5); clear hb5))
        all_goals (
          go_wp2_with fail
          go_ret
          exact GivesBool.ret X.out.low)
  · go_enter Try.func3, Try.ntmps3
    go_wp2_with fail
    refine (big_yes A n c _ hn).mono ?_
    rintro e w' ⟨rfl, rfl⟩
    go_wp2_with fail
    go_ret
    exact GivesBool.ret (Below.refl _ _)
end Go.Proofs.Ytfgijebgnkikpaa
