/- FnScripts: a method found bears its name, scripts are alike both ways, and both sides tell scripts and libraries alike. -/
import Derived.Test.YtaepconmjmcbdaaLawD
import Derived.Test.YtaepconmjmcbdaaMOR
import Derived.Test.YtaepconmjmcbdaaDisL
import Derived.Test.YtaepconmjmcbdaaEqP
import Derived.Test.YtaepconmjmcbdaaDraw6D
import Derived.Deep.RegionHeld3
namespace Go.Proofs.Ytaepconmjmcbdaa
open Go.RowKit
set_option linter.unusedVariables false
set_option linter.unusedSimpArgs false
theorem count_bulk2 {L : List Dat} {n : Nat} (h : L.length = n) (hq : (Dat.l L).bulk ≤ 1048576) : n ≤ 1048576 := by
  simp only [Dat.bulk] at hq
  omega
theorem methOf_cases (L : List Dat) (i : Int) (nm : ByteArray) : methOf L i nm = noMO ∨ ∃ s m, s ∈ L ∧ m ∈ codeOf s ∧ methOf L i nm = ⟨nameOf m, codeOf m, true⟩ := by
  unfold methOf
  split
  · split
    · rename_i s hs
      unfold pick
      split
      · rename_i m hm
        split
        · exact Or.inr ⟨s, m, List.mem_of_getElem? hs, List.mem_of_getElem? hm, rfl⟩
        · exact Or.inl rfl
      · exact Or.inl rfl
    · exact Or.inl rfl
  · exact Or.inl rfl
theorem code_scr {s : Dat} (h : Has tyScript s) : ∀ x ∈ codeOf s, Has tyMethod x := by
  simp only [tyScript, Has, HasAll] at h
  obtain ⟨ds, rfl, d0, r0, rfl, ⟨f0, rfl, hf0⟩, d1, r1, rfl, ⟨L1, rfl, hm1, ht1⟩, rfl⟩ := h
  exact ht1
theorem code_meth {s : Dat} (h : Has tyMethod s) : ∀ x ∈ codeOf s, Has tyInstr x := by
  simp only [tyMethod, Has, HasAll] at h
  obtain ⟨ds, rfl, d0, r0, rfl, ⟨f0, rfl, hf0⟩, d1, r1, rfl, ⟨L1, rfl, hm1, ht1⟩, rfl⟩ := h
  exact ht1
theorem codeOf_bulk (s : Dat) : (Dat.l (codeOf s)).bulk ≤ s.bulk := by
  unfold codeOf
  split
  · simp only [Dat.bulk, bulkAll]; omega
  · simp [Dat.bulk, bulkAll]
theorem methOf_has {L : List Dat} (h : ∀ x ∈ L, Has tyScript x) (i : Int) (nm : ByteArray) : ∀ x ∈ (methOf L i nm).code, Has tyInstr x := by
  rcases methOf_cases L i nm with e | ⟨s, m, hs, hm, e⟩
  · rw [e]; intro x hx; cases hx
  · rw [e]; exact code_meth (code_scr (h s hs) m hm)
theorem methOf_bulk (L : List Dat) (i : Int) (nm : ByteArray) : (Dat.l (methOf L i nm).code).bulk ≤ (Dat.l L).bulk := by
  rcases methOf_cases L i nm with e | ⟨s, m, hs, hm, e⟩
  · rw [e]; simp [noMO, Dat.bulk, bulkAll]
  · rw [e]
    have h1 := codeOf_bulk m
    have h2 := bulk_mem hm
    have h3 := codeOf_bulk s
    have h4 := bulk_mem hs
    simp only [Dat.bulk] at h1 h3 ⊢
    omega
theorem specMOV (L : List Dat) (A : Option Addr) (n c : Nat) (i : Int) (nm : ByteArray) (R : MO) (w : World) (h : Lies w (.l L) [.slice A n c]) (ht : ∀ x ∈ L, Has tyScript x) (hq : (Dat.l L).bulk ≤ 1099511627776) (hR : methOf L i nm = R) :
    Calls Try.prog 14 #[.slice A n c, .int .i64 i, .string nm] w (GivesMO R w) := by subst hR; exact specMO L A n c i nm w h ht hq
theorem implMOV (L : List Dat) (A : Option Addr) (n c : Nat) (i : Int) (nm : ByteArray) (R : MO) (w : World) (h : Lies w (.l L) [.slice A n c]) (ht : ∀ x ∈ L, Has tyScript x) (hq : (Dat.l L).bulk ≤ 1099511627776) (hR : methOf L i nm = R) :
    Calls Try.prog 13 #[.slice A n c, .int .i64 i, .string nm] w (GivesMO R w) := by subst hR; exact implMO L A n c i nm w h ht hq
theorem pick_name {L : List Dat} {nm rn : ByteArray} {rc : List Dat} (h : pick L (find L nm) = ⟨rn, rc, true⟩) : rn = nm := by
  rcases idx_cases (named nm) L with ⟨hno, -⟩ | ⟨j, m, hjm, hm, hn, hjl⟩
  · rw [find_idx] at hno
    rw [hno, pick_no] at h
    simp [noMO] at h
  · rw [find_idx] at hjm
    rw [hjm, pick_at hm] at h
    have e : nameOf m = rn := congrArg MO.name h
    rw [← e]
    exact of_decide_eq_true hn
theorem methOf_name {L : List Dat} {i : Int} {nm rn : ByteArray} {rc : List Dat} (h : methOf L i nm = ⟨rn, rc, true⟩) : rn = nm := by
  unfold methOf at h
  split at h
  · split at h
    · exact pick_name h
    · simp [noMO] at h
  · simp [noMO] at h
theorem implEqScrV (f0 : ByteArray) (L1 : List Dat) (A1 : Option Addr) (n1 c1 : Nat) (g0 : ByteArray) (M1 : List Dat) (B1 : Option Addr) (m1 k1 : Nat) (v : Bool) (w : World) (hv : eqScrD (.r [.s f0, .l L1]) (.r [.s g0, .l M1]) = v) (hl : Lies w (.l L1) [.slice A1 n1 c1]) (hr : Lies w (.l M1) [.slice B1 m1 k1])
    (ht : ∀ x ∈ L1, Has tyMethod x) (ht' : ∀ x ∈ M1, Has tyMethod x) (hn : n1 ≤ 9223372036854775807) (hm : m1 ≤ 9223372036854775807) : Calls Try.prog 19 #[.agg #[.string f0, .slice A1 n1 c1], .agg #[.string g0, .slice B1 m1 k1]] w (GivesBool v w) := by
  subst hv
  exact implEqScr _ _ f0 L1 A1 n1 c1 g0 M1 B1 m1 k1 w rfl rfl hl hr ht ht' hn hm
theorem implEndsV (nm : ByteArray) (L : List Dat) (A : Option Addr) (n c : Nat) (v : Bool) (w : World) (hv : ends (.r [.s nm, .l L]) = v) (h : Lies w (.l L) [.slice A n c]) (ht : ∀ x ∈ L, Has tyInstr x) (hn : n ≤ 9223372036854775807) : Calls Try.prog 17 #[.agg #[.string nm, .slice A n c]] w (GivesBool v w) := by
  subst hv
  exact implEnds nm L A n c w h ht hn
theorem specEndsV (nm : ByteArray) (L : List Dat) (A : Option Addr) (n c : Nat) (v : Bool) (w : World) (hv : ends (.r [.s nm, .l L]) = v) (h : Lies w (.l L) [.slice A n c]) (ht : ∀ x ∈ L, Has tyInstr x) (hn : n ≤ 9223372036854775807) : Calls Try.prog 18 #[.agg #[.string nm, .slice A n c]] w (GivesBool v w) := by
  subst hv
  exact specEnds nm L A n c w h ht hn
theorem implScrV (nm : ByteArray) (L : List Dat) (A : Option Addr) (n c : Nat) (v : Bool) (w : World) (hv : isScr (.r [.s nm, .l L]) = v) (h : Lies w (.l L) [.slice A n c]) (ht : ∀ x ∈ L, Has tyMethod x) (hn : n ≤ 9223372036854775807) : Calls Try.prog 22 #[.agg #[.string nm, .slice A n c]] w (GivesBool v w) := by
  subst hv
  exact implScr nm L A n c w h ht hn
theorem specScrV (nm : ByteArray) (L : List Dat) (A : Option Addr) (n c : Nat) (v : Bool) (w : World) (hv : isScr (.r [.s nm, .l L]) = v) (h : Lies w (.l L) [.slice A n c]) (ht : ∀ x ∈ L, Has tyMethod x) (hq : (Dat.r [.s nm, .l L]).bulk ≤ 1099511627776) : Calls Try.prog 23 #[.agg #[.string nm, .slice A n c]] w (GivesBool v w) := by
  subst hv
  exact specScr nm L A n c w h ht hq
theorem implLibV (L : List Dat) (A : Option Addr) (n c : Nat) (v : Bool) (w : World) (hv : isLib L = v) (h : Lies w (.l L) [.slice A n c]) (ht : ∀ x ∈ L, Has tyScript x) (hn : n ≤ 9223372036854775807) : Calls Try.prog 20 #[.slice A n c] w (GivesBool v w) := by
  subst hv
  exact implLib L A n c w h ht hn
theorem specLibV (L : List Dat) (A : Option Addr) (n c : Nat) (v : Bool) (w : World) (hv : isLib L = v) (h : Lies w (.l L) [.slice A n c]) (ht : ∀ x ∈ L, Has tyScript x) (hq : (Dat.l L).bulk ≤ 1099511627776) : Calls Try.prog 21 #[.slice A n c] w (GivesBool v w) := by
  subst hv
  exact specLib L A n c w h ht hq
theorem meths_has {m : Nat} {L : List Dat} (h : MethsOk m L) : ∀ x ∈ L, Has tyMethod x := fun x hx => (h.2 x hx).1
theorem scrs_has {m : Nat} {L : List Dat} (h : ScrsOk m L) : ∀ x ∈ L, Has tyScript x := fun x hx => (h.2 x hx).1
set_option maxRecDepth 100000 in
set_option maxHeartbeats 8000000 in
theorem law_Scripts (A : Option Addr) (n c : Nat) (W : World) (hC : Code W A n) : Calls Try.prog 3 #[.slice A n c] W (GivesBool true W) := by
  have HC := Lib.hid hC
  clear hC
  by_cases hn : n ≤ 1048576
  · go_enter Try.func3, Try.ntmps3
    go_wp2_with fail
    refine (big_no A n c _ hn).mono ?_
    rintro e w' ⟨rfl, rfl⟩
    go_wp2_with fail
    refine (drawMO A n c _ HC.out hn).mono ?_
    rintro e w1 ⟨L, A1, n1, c1, i, s, rfl, hl, hP, hs, hb⟩
    have X := Lib.hid (((St.start W).below hb).lie hl)
    have hn1 : n1 ≤ 7 := by have h1 := hl.count; have := hP.1; omega
    have HT := Lib.hid (scrs_has hP)
    have hq := hP.bulk (by omega)
    have HQ := Lib.hid hq
    obtain ⟨⟨rn, rc, rk⟩, hR⟩ : ∃ R, methOf L i s = R := ⟨_, rfl⟩
    have hrc := methOf_bulk L i s
    have hrt := methOf_has (scrs_has hP) i s
    rw [hR] at hrc hrt
    have HRT : Hid (∀ x ∈ rc, Has tyInstr x) := Lib.hid hrt
    have hrq : (Dat.l rc).bulk ≤ 1048576 := Nat.le_trans hrc hq
    have HR := Lib.hid hR
    clear hl hP hb hR hrc hrt hq
    go_wp2_with fail
    refine (implMOV L A1 n1 c1 i s _ _ (X.out.lies (by repeat (first | exact List.mem_cons_self | refine List.mem_cons_of_mem _ ?_))) HT.out (by have := HQ.out; omega) HR.out).mono ?_
    rintro e w2 ⟨A2, n2, c2, rfl, hO, hb⟩
    replace X := Lib.hid (((X.out.below hb).lie hO.lies).push #[.string rn, .slice A2 n2 c2] 29)
    have hn2 : n2 ≤ 1048576 := count_bulk2 hO.lies.count hrq
    clear hO hb hrq
    go_wp2_with fail
    refine (specMOV L A1 n1 c1 i s _ _ (X.out.lies (by repeat (first | exact List.mem_cons_self | refine List.mem_cons_of_mem _ ?_))) HT.out (by have := HQ.out; omega) HR.out).mono ?_
    rintro e w3 ⟨A3, n3, c3, rfl, hO, hb⟩
    replace X := Lib.hid (((X.out.below hb)).push #[.string rn, .slice A3 n3 c3] 29)
    clear hO hb HT HQ
    go_wp2_with fail
    refine (drawTwo A n c _ (HC.out.low6 X.out.low) hn).mono ?_
    rintro e w4 ⟨f0, L0, B0, m0, k0, f1, L1, B1, m1, k1, rfl, hl0, hl1, hf0, hk0, hf1, hk1, hb⟩
    have hX := (((((X.out.below hb).lie hl0).lie hl1).push #[.string f0, .slice B0 m0 k0] 34).push #[.string f1, .slice B1 m1 k1] 34)
    rw [World.size_alloc] at hX
    replace X := Lib.hid hX
    clear hX
    have hm0 : m0 ≤ 6 := by have h1 := hl0.count; have := hk0.1; omega
    have hm1 : m1 ≤ 6 := by have h1 := hl1.count; have := hk1.1; omega
    have HT0 := Lib.hid (meths_has hk0)
    have HT1 := Lib.hid (meths_has hk1)
    have HQ0 : Hid ((Dat.r [.s f0, .l L0]).bulk ≤ 2000) := Lib.hid (scr_d hf0 hk0).2
    clear hl0 hl1 hk0 hk1 hb
    go_wp2_with fail
    refine (drawLib A n c _ (HC.out.low6 X.out.low) hn).mono ?_
    rintro e w5 ⟨L5, A5, n5, c5, rfl, hl5, hP5, hb⟩
    replace X := Lib.hid ((X.out.below hb).lie hl5)
    have hn5 : n5 ≤ 7 := by have h1 := hl5.count; have := hP5.1; omega
    have HT5 := Lib.hid (scrs_has hP5)
    have HQ5 := Lib.hid (hP5.bulk (by omega))
    clear hl5 hP5 hb HC
    obtain ⟨ev, hev⟩ : ∃ v, ends (.r [.s rn, .l rc]) = v := ⟨_, rfl⟩
    obtain ⟨p, hp⟩ : ∃ v, eqScrD (.r [.s f0, .l L0]) (.r [.s f1, .l L1]) = v := ⟨_, rfl⟩
    have hp' : eqScrD (.r [.s f1, .l L1]) (.r [.s f0, .l L0]) = p := by rw [eqScrD_comm]; exact hp
    obtain ⟨q, hq⟩ : ∃ v, isLib L5 = v := ⟨_, rfl⟩
    obtain ⟨r, hr⟩ : ∃ v, isScr (.r [.s f0, .l L0]) = v := ⟨_, rfl⟩
    have HEV := Lib.hid hev
    have HPV := Lib.hid hp
    have HPV' := Lib.hid hp'
    have HQV := Lib.hid hq
    have HRV := Lib.hid hr
    clear hev hp hp' hq hr
    have HPR := Lib.hid (eqScrD_refl (.r [.s f0, .l L0]))
    cases rk with
    | false =>
      clear HR
      obtain ⟨z0, z1⟩ := X.out.two (g := w2.heap.size) (x := .string rn) (y := .slice A2 n2 c2) (by repeat (first | exact List.mem_cons_self | refine List.mem_cons_of_mem _ ?_))
      go_wp2_with fail
      replace X := Lib.hid X.out.drew
      obtain ⟨z2, z3⟩ := X.out.two (g := w2.heap.size) (x := .string rn) (y := .slice A2 n2 c2) (by repeat (first | exact List.mem_cons_self | refine List.mem_cons_of_mem _ ?_))
      first
      | (go_region_law (first
          | (go_simp; go_at_call 17; (with_reducible refine (implEndsV rn rc A2 n2 c2 ev _ HEV.out (X.out.lies (d := .l rc) (cs := [.slice A2 n2 c2]) (by repeat (first | exact List.mem_cons_self | refine List.mem_cons_of_mem _ ?_))) HRT.out (by omega)).mono ?_); rintro e u0 ⟨rfl, hb5⟩; replace X := Lib.hid (X.out.below hb5); clear hb5; (obtain ⟨z0, z1⟩ := X.out.two (g := w2.heap.size) (x := .string rn) (y := .slice A2 n2 c2) (by repeat (first | exact List.mem_cons_self | refine List.mem_cons_of_mem _ ?_))))
          | (go_simp; go_at_call 18; (with_reducible refine (specEndsV rn rc A2 n2 c2 ev _ HEV.out (X.out.lies (d := .l rc) (cs := [.slice A2 n2 c2]) (by repeat (first | exact List.mem_cons_self | refine List.mem_cons_of_mem _ ?_))) HRT.out (by omega)).mono ?_); rintro e u1 ⟨rfl, hb5⟩; replace X := Lib.hid (X.out.below hb5); clear hb5; (obtain ⟨z0, z1⟩ := X.out.two (g := w2.heap.size) (x := .string rn) (y := .slice A2 n2 c2) (by repeat (first | exact List.mem_cons_self | refine List.mem_cons_of_mem _ ?_))))))
      | fail
      all_goals (
        clear z0 z1
        try clear z2 z3
        obtain ⟨z0, y0⟩ := X.out.two (g := w4.heap.size) (x := .string f0) (y := .slice B0 m0 k0) (by repeat (first | exact List.mem_cons_self | refine List.mem_cons_of_mem _ ?_))
        obtain ⟨z1, y1⟩ := X.out.two (g := w4.heap.size + 1) (x := .string f1) (y := .slice B1 m1 k1) (by repeat (first | exact List.mem_cons_self | refine List.mem_cons_of_mem _ ?_))
        go_wp2_with fail
        replace X := Lib.hid X.out.drew
        go_region_held3 (fun w' => w'.cell? ⟨w4.heap.size, 0, none⟩ = some (.string f0) ∧ w'.cell? ⟨w4.heap.size, 1, none⟩ = some (.slice B0 m0 k0) ∧ w'.cell? ⟨w4.heap.size + 1, 0, none⟩ = some (.string f1) ∧ w'.cell? ⟨w4.heap.size + 1, 1, none⟩ = some (.slice B1 m1 k1))
          (first | with_reducible exact ⟨(X.out.two (g := w4.heap.size) (x := .string f0) (y := .slice B0 m0 k0) (by repeat (first | exact List.mem_cons_self | refine List.mem_cons_of_mem _ ?_))).1, (X.out.two (g := w4.heap.size) (x := .string f0) (y := .slice B0 m0 k0) (by repeat (first | exact List.mem_cons_self | refine List.mem_cons_of_mem _ ?_))).2, (X.out.two (g := w4.heap.size + 1) (x := .string f1) (y := .slice B1 m1 k1) (by repeat (first | exact List.mem_cons_self | refine List.mem_cons_of_mem _ ?_))).1, (X.out.two (g := w4.heap.size + 1) (x := .string f1) (y := .slice B1 m1 k1) (by repeat (first | exact List.mem_cons_self | refine List.mem_cons_of_mem _ ?_))).2⟩ | go_keep)
          (first
          | (go_at_call 19; (with_reducible refine (implEqScrV f0 L0 B0 m0 k0 f1 L1 B1 m1 k1 p _ HPV.out (X.out.lies (d := .l L0) (cs := [.slice B0 m0 k0]) (by repeat (first | exact List.mem_cons_self | refine List.mem_cons_of_mem _ ?_))) (X.out.lies (d := .l L1) (cs := [.slice B1 m1 k1]) (by repeat (first | exact List.mem_cons_self | refine List.mem_cons_of_mem _ ?_))) HT0.out HT1.out (by omega) (by omega)).mono ?_); rintro e v0 ⟨rfl, hb5⟩; replace X := Lib.hid (X.out.below hb5); clear hb5)
          | (go_at_call 19; (with_reducible refine (implEqScrV f1 L1 B1 m1 k1 f0 L0 B0 m0 k0 p _ HPV'.out (X.out.lies (d := .l L1) (cs := [.slice B1 m1 k1]) (by repeat (first | exact List.mem_cons_self | refine List.mem_cons_of_mem _ ?_))) (X.out.lies (d := .l L0) (cs := [.slice B0 m0 k0]) (by repeat (first | exact List.mem_cons_self | refine List.mem_cons_of_mem _ ?_))) HT1.out HT0.out (by omega) (by omega)).mono ?_); rintro e v1 ⟨rfl, hb5⟩; replace X := Lib.hid (X.out.below hb5); clear hb5)
          | (go_at_call 19; (with_reducible refine (implEqScrV f0 L0 B0 m0 k0 f0 L0 B0 m0 k0 true _ HPR.out (X.out.lies (d := .l L0) (cs := [.slice B0 m0 k0]) (by repeat (first | exact List.mem_cons_self | refine List.mem_cons_of_mem _ ?_))) (X.out.lies (d := .l L0) (cs := [.slice B0 m0 k0]) (by repeat (first | exact List.mem_cons_self | refine List.mem_cons_of_mem _ ?_))) HT0.out HT0.out (by omega) (by omega)).mono ?_); rintro e v2 ⟨rfl, hb5⟩; replace X := Lib.hid (X.out.below hb5); clear hb5)
          | (go_at_call 20; (with_reducible refine (implLibV L5 A5 n5 c5 q _ HQV.out (X.out.lies (d := .l L5) (cs := [.slice A5 n5 c5]) (by repeat (first | exact List.mem_cons_self | refine List.mem_cons_of_mem _ ?_))) HT5.out (by omega)).mono ?_); rintro e v3 ⟨rfl, hb5⟩; replace X := Lib.hid (X.out.below hb5); clear hb5)
          | (go_at_call 21; (with_reducible refine (specLibV L5 A5 n5 c5 q _ HQV.out (X.out.lies (d := .l L5) (cs := [.slice A5 n5 c5]) (by repeat (first | exact List.mem_cons_self | refine List.mem_cons_of_mem _ ?_))) HT5.out (by have := HQ5.out; omega)).mono ?_); rintro e v4 ⟨rfl, hb5⟩; replace X := Lib.hid (X.out.below hb5); clear hb5)
          | (go_at_call 22; (with_reducible refine (implScrV f0 L0 B0 m0 k0 r _ HRV.out (X.out.lies (d := .l L0) (cs := [.slice B0 m0 k0]) (by repeat (first | exact List.mem_cons_self | refine List.mem_cons_of_mem _ ?_))) HT0.out (by omega)).mono ?_); rintro e v5 ⟨rfl, hb5⟩; replace X := Lib.hid (X.out.below hb5); clear hb5)
          | (go_at_call 23; (with_reducible refine (specScrV f0 L0 B0 m0 k0 r _ HRV.out (X.out.lies (d := .l L0) (cs := [.slice B0 m0 k0]) (by repeat (first | exact List.mem_cons_self | refine List.mem_cons_of_mem _ ?_))) HT0.out (by have := HQ0.out; omega)).mono ?_); rintro e v6 ⟨rfl, hb5⟩; replace X := Lib.hid (X.out.below hb5); clear hb5))
        all_goals (
          try clear z0 y0 z1 y1
          go_wp2_with fail
          go_ret
          exact GivesBool.ret X.out.low))
    | true =>
      obtain rfl : rn = s := methOf_name HR.out
      clear HR
      obtain ⟨z0, z1⟩ := X.out.two (g := w2.heap.size) (x := .string rn) (y := .slice A2 n2 c2) (by repeat (first | exact List.mem_cons_self | refine List.mem_cons_of_mem _ ?_))
      go_wp2_with fail
      replace X := Lib.hid X.out.drew
      go_region_held3 (fun w' => w'.cell? ⟨w2.heap.size, 0, none⟩ = some (.string rn) ∧ w'.cell? ⟨w2.heap.size, 1, none⟩ = some (.slice A2 n2 c2))
        (first | with_reducible exact X.out.two (g := w2.heap.size) (x := .string rn) (y := .slice A2 n2 c2) (by repeat (first | exact List.mem_cons_self | refine List.mem_cons_of_mem _ ?_)) | go_keep)
        (first
        | (go_at_call 17; (with_reducible refine (implEndsV rn rc A2 n2 c2 ev _ HEV.out (X.out.lies (d := .l rc) (cs := [.slice A2 n2 c2]) (by repeat (first | exact List.mem_cons_self | refine List.mem_cons_of_mem _ ?_))) HRT.out (by omega)).mono ?_); rintro e u0 ⟨rfl, hb5⟩; replace X := Lib.hid (X.out.below hb5); clear hb5)
        | (go_at_call 18; (with_reducible refine (specEndsV rn rc A2 n2 c2 ev _ HEV.out (X.out.lies (d := .l rc) (cs := [.slice A2 n2 c2]) (by repeat (first | exact List.mem_cons_self | refine List.mem_cons_of_mem _ ?_))) HRT.out (by omega)).mono ?_); rintro e u1 ⟨rfl, hb5⟩; replace X := Lib.hid (X.out.below hb5); clear hb5))
      all_goals (
        try clear z0 z1
        obtain ⟨z0, y0⟩ := X.out.two (g := w4.heap.size) (x := .string f0) (y := .slice B0 m0 k0) (by repeat (first | exact List.mem_cons_self | refine List.mem_cons_of_mem _ ?_))
        obtain ⟨z1, y1⟩ := X.out.two (g := w4.heap.size + 1) (x := .string f1) (y := .slice B1 m1 k1) (by repeat (first | exact List.mem_cons_self | refine List.mem_cons_of_mem _ ?_))
        go_wp2_with fail
        replace X := Lib.hid X.out.drew
        go_region_held3 (fun w' => w'.cell? ⟨w4.heap.size, 0, none⟩ = some (.string f0) ∧ w'.cell? ⟨w4.heap.size, 1, none⟩ = some (.slice B0 m0 k0) ∧ w'.cell? ⟨w4.heap.size + 1, 0, none⟩ = some (.string f1) ∧ w'.cell? ⟨w4.heap.size + 1, 1, none⟩ = some (.slice B1 m1 k1))
          (first | with_reducible exact ⟨(X.out.two (g := w4.heap.size) (x := .string f0) (y := .slice B0 m0 k0) (by repeat (first | exact List.mem_cons_self | refine List.mem_cons_of_mem _ ?_))).1, (X.out.two (g := w4.heap.size) (x := .string f0) (y := .slice B0 m0 k0) (by repeat (first | exact List.mem_cons_self | refine List.mem_cons_of_mem _ ?_))).2, (X.out.two (g := w4.heap.size + 1) (x := .string f1) (y := .slice B1 m1 k1) (by repeat (first | exact List.mem_cons_self | refine List.mem_cons_of_mem _ ?_))).1, (X.out.two (g := w4.heap.size + 1) (x := .string f1) (y := .slice B1 m1 k1) (by repeat (first | exact List.mem_cons_self | refine List.mem_cons_of_mem _ ?_))).2⟩ | go_keep)
          (first
          | (go_at_call 19; (with_reducible refine (implEqScrV f0 L0 B0 m0 k0 f1 L1 B1 m1 k1 p _ HPV.out (X.out.lies (d := .l L0) (cs := [.slice B0 m0 k0]) (by repeat (first | exact List.mem_cons_self | refine List.mem_cons_of_mem _ ?_))) (X.out.lies (d := .l L1) (cs := [.slice B1 m1 k1]) (by repeat (first | exact List.mem_cons_self | refine List.mem_cons_of_mem _ ?_))) HT0.out HT1.out (by omega) (by omega)).mono ?_); rintro e v0 ⟨rfl, hb5⟩; replace X := Lib.hid (X.out.below hb5); clear hb5)
          | (go_at_call 19; (with_reducible refine (implEqScrV f1 L1 B1 m1 k1 f0 L0 B0 m0 k0 p _ HPV'.out (X.out.lies (d := .l L1) (cs := [.slice B1 m1 k1]) (by repeat (first | exact List.mem_cons_self | refine List.mem_cons_of_mem _ ?_))) (X.out.lies (d := .l L0) (cs := [.slice B0 m0 k0]) (by repeat (first | exact List.mem_cons_self | refine List.mem_cons_of_mem _ ?_))) HT1.out HT0.out (by omega) (by omega)).mono ?_); rintro e v1 ⟨rfl, hb5⟩; replace X := Lib.hid (X.out.below hb5); clear hb5)
          | (go_at_call 19; (with_reducible refine (implEqScrV f0 L0 B0 m0 k0 f0 L0 B0 m0 k0 true _ HPR.out (X.out.lies (d := .l L0) (cs := [.slice B0 m0 k0]) (by repeat (first | exact List.mem_cons_self | refine List.mem_cons_of_mem _ ?_))) (X.out.lies (d := .l L0) (cs := [.slice B0 m0 k0]) (by repeat (first | exact List.mem_cons_self | refine List.mem_cons_of_mem _ ?_))) HT0.out HT0.out (by omega) (by omega)).mono ?_); rintro e v2 ⟨rfl, hb5⟩; replace X := Lib.hid (X.out.below hb5); clear hb5)
          | (go_at_call 20; (with_reducible refine (implLibV L5 A5 n5 c5 q _ HQV.out (X.out.lies (d := .l L5) (cs := [.slice A5 n5 c5]) (by repeat (first | exact List.mem_cons_self | refine List.mem_cons_of_mem _ ?_))) HT5.out (by omega)).mono ?_); rintro e v3 ⟨rfl, hb5⟩; replace X := Lib.hid (X.out.below hb5); clear hb5)
          | (go_at_call 21; (with_reducible refine (specLibV L5 A5 n5 c5 q _ HQV.out (X.out.lies (d := .l L5) (cs := [.slice A5 n5 c5]) (by repeat (first | exact List.mem_cons_self | refine List.mem_cons_of_mem _ ?_))) HT5.out (by have := HQ5.out; omega)).mono ?_); rintro e v4 ⟨rfl, hb5⟩; replace X := Lib.hid (X.out.below hb5); clear hb5)
          | (go_at_call 22; (with_reducible refine (implScrV f0 L0 B0 m0 k0 r _ HRV.out (X.out.lies (d := .l L0) (cs := [.slice B0 m0 k0]) (by repeat (first | exact List.mem_cons_self | refine List.mem_cons_of_mem _ ?_))) HT0.out (by omega)).mono ?_); rintro e v5 ⟨rfl, hb5⟩; replace X := Lib.hid (X.out.below hb5); clear hb5)
          | (go_at_call 23; (with_reducible refine (specScrV f0 L0 B0 m0 k0 r _ HRV.out (X.out.lies (d := .l L0) (cs := [.slice B0 m0 k0]) (by repeat (first | exact List.mem_cons_self | refine List.mem_cons_of_mem _ ?_))) HT0.out (by have := HQ0.out; omega)).mono ?_); rintro e v6 ⟨rfl, hb5⟩; replace X := Lib.hid (X.out.below hb5); clear hb5))
        all_goals (
          try clear z0 y0 z1 y1
          go_wp2_with fail
          go_ret
          exact GivesBool.ret X.out.low))
  · go_enter Try.func3, Try.ntmps3
    go_wp2_with fail
    refine (big_yes A n c _ hn).mono ?_
    rintro e w' ⟨rfl, rfl⟩
    go_wp2_with fail
    go_ret
    exact GivesBool.ret (Below.refl _ _)
end Go.Proofs.Ytaepconmjmcbdaa
