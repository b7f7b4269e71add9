/- Chapter 8, the program's FirstUnset: for every method, whatever its instructions. -/
import Derived.Test.YtgibhbplgiejpaaGreatChkC
namespace Go.Proofs.YtgibhbplgiejpaaGreat
open Go.RowKit
set_option linter.unusedVariables false
set_option linter.unusedSimpArgs false
theorem ints_at {w : World} {zs : List Int} {A : Option Addr} {n c j : Nat} (h : Lies w (.l (zs.map Dat.i)) [.slice A n c]) (hj : j < n) : ∃ b off v, A = some ⟨b, off, none⟩ ∧ b < w.heap.size ∧ zs[j]? = some v ∧ w.cell? ⟨b, off + j, none⟩ = some (.int .i64 v) := by
  obtain ⟨b, off, d, xs, rfl, hbw, hzi, hlie, hlen, hcell0⟩ := Lies.elem (k := 1) h (fun x hx => by obtain ⟨y, -, rfl⟩ := List.mem_map.1 hx; rfl) hj
  obtain ⟨v, hv, rfl⟩ : ∃ v, zs[j]? = some v ∧ d = .i v := by
    rw [List.getElem?_map] at hzi
    cases h1 : zs[j]? with
    | none => rw [h1] at hzi; cases hzi
    | some x => rw [h1] at hzi; exact ⟨x, rfl, (Option.some.inj hzi).symm⟩
  rw [Lies] at hlie
  subst hlie
  exact ⟨b, off, v, rfl, hbw, hv, by have h1 := hcell0 0 _ rfl; simpa using h1⟩
theorem in64_passed {c d : Int} {z : Int} (hc : -9223372036854775808 ≤ c ∧ c ≤ 9223372036854775807) (hd : -9223372036854775808 ≤ d ∧ d ≤ 9223372036854775807) (hz : z ∈ passed c d) : -9223372036854775808 ≤ z ∧ z ≤ 9223372036854775807 := by
  unfold passed at hz
  rcases List.mem_append.1 hz with h | h
  · split at h
    · cases h
    · rw [List.mem_singleton.1 h]; exact hc
  · split at h
    · cases h
    · rw [List.mem_singleton.1 h]; exact hd
theorem regs_b {op a b c d z : Int} {nm : ByteArray} (ha : -9223372036854775808 ≤ a ∧ a ≤ 9223372036854775807) (hb2 : -9223372036854775808 ≤ b ∧ b ≤ 9223372036854775807) (hc : -9223372036854775808 ≤ c ∧ c ≤ 9223372036854775807) (hd : -9223372036854775808 ≤ d ∧ d ≤ 9223372036854775807) (hz0 : z ∈ regsOf ⟨op, a, b, c, d, nm⟩) : -9223372036854775808 ≤ z ∧ z ≤ 9223372036854775807 := by
  have hz : z ∈ (if op = 5 then [b, c] else if op = 6 then b :: passed c d else if op = 7 then passed c d else if op = 8 then [b] else if op = 9 then [a] else if op = 10 then [a] else []) := hz0
  by_cases e5 : op = 5
  · rw [if_pos e5] at hz; simp at hz; rcases hz with rfl | rfl <;> assumption
  rw [if_neg e5] at hz
  by_cases e6 : op = 6
  · rw [if_pos e6] at hz
    rcases List.mem_cons.1 hz with rfl | hz
    · exact hb2
    · exact in64_passed hc hd hz
  rw [if_neg e6] at hz
  by_cases e7 : op = 7
  · rw [if_pos e7] at hz
    exact in64_passed hc hd hz
  rw [if_neg e7] at hz
  by_cases e8 : op = 8
  · rw [if_pos e8] at hz; simp at hz; rw [hz]; exact hb2
  rw [if_neg e8] at hz
  by_cases e9 : op = 9
  · rw [if_pos e9] at hz; simp at hz; rw [hz]; exact ha
  rw [if_neg e9] at hz
  by_cases e10 : op = 10
  · rw [if_pos e10] at hz; simp at hz; rw [hz]; exact ha
  rw [if_neg e10] at hz
  cases hz
theorem regs_in64 {d : Dat} (h : Has tyInstr d) : ∀ z ∈ regsOf (insOf d), -9223372036854775808 ≤ z ∧ z ≤ 9223372036854775807 := by
  simp only [tyInstr, Has, HasAll] at h
  obtain ⟨ds, rfl, _, _, rfl, ⟨f0, rfl, h0⟩, _, _, rfl, ⟨f1, rfl, h1⟩, _, _, rfl, ⟨f2, rfl, h2⟩, _, _, rfl, ⟨f3, rfl, h3⟩, _, _, rfl, ⟨f4, rfl, h4⟩, _, _, rfl, ⟨f5, rfl, -⟩, rfl⟩ := h
  intro z hz
  exact regs_b (op := f0) (nm := f5) h1 h2 h3 h4 hz
theorem reads_in64 {L : List Dat} (h : ∀ x ∈ L, Has tyInstr x) : ∀ z ∈ readsL (insL L), -9223372036854775808 ≤ z ∧ z ≤ 9223372036854775807 := by
  intro z hz
  obtain ⟨x, hx, hz⟩ := List.mem_flatMap.1 hz
  obtain ⟨d, hd, rfl⟩ := List.mem_map.1 hx
  exact regs_in64 (h d hd) z hz
theorem reads_len (J : List I) : (readsL J).length ≤ 3 * J.length := by
  induction J with
  | nil => simp [readsL]
  | cons x J ih =>
    have h1 := regsOf_len x
    have e : readsL (x :: J) = regsOf x ++ readsL J := rfl
    rw [e, List.length_append, List.length_cons]
    omega
/-- After k registers: the first place so far, and what is left of the code. -/
structure FuS (J : List I) (rs : List Int) (k : Nat) (f : Int) (p : Nat) : Prop where
  first : f = firstP (badS J (rs.take k)) J.length
  left : p = leftP f J.length
theorem FuS.start (J : List I) (rs : List Int) : FuS J rs 0 (-1) J.length := ⟨(firstP_none (fun j hj => rfl)).symm, rfl⟩
theorem FuS.le {J : List I} {rs : List Int} {k : Nat} {f : Int} {p : Nat} (h : FuS J rs k f p) : p ≤ J.length ∧ -1 ≤ f ∧ f ≤ J.length := by
  have h1 := h.left
  have h2 := firstP_lt (badS J (rs.take k)) J.length
  rw [← h.first] at h2
  unfold leftP at h1
  split at h1 <;> omega
theorem take_reg {rs : List Int} {k : Nat} {r : Int} (h : rs[k]? = some r) : rs.take (k + 1) = rs.take k ++ [r] := by rw [List.take_add_one, h]; rfl
theorem FuS.no {J : List I} {rs : List Int} {k : Nat} {f : Int} {p : Nat} {r : Int} (h : FuS J rs k f p) (hr : rs[k]? = some r) (hg : firstR (J.take p) r = -1) : FuS J rs (k + 1) f p :=
  ⟨by rw [take_reg hr]; exact fu_no h.first h.left hg, h.left⟩
theorem FuS.yes {J : List I} {rs : List Int} {k : Nat} {f : Int} {p q : Nat} {r : Int} (h : FuS J rs k f p) (hr : rs[k]? = some r) (hg : firstR (J.take p) r = (q : Int)) : FuS J rs (k + 1) q q ∧ q < p := by
  obtain ⟨h1, h2, h3⟩ := fu_yes h.first h.left hg (by omega)
  exact ⟨⟨by rw [take_reg hr]; exact h1, by rw [leftP, if_neg (by omega)]; omega⟩, by omega⟩
theorem FuS.done {J : List I} {rs : List Int} {k : Nat} {f : Int} {p : Nat} (h : FuS J rs k f p) (hk : rs.length ≤ k) (hrs : ∀ r, r ∈ rs ↔ r ∈ readsL J) : f = implFU J := by
  rw [h.first, List.take_of_length_le hk]
  exact implFU_of hrs
theorem firstR_ge (L : List I) (r : Int) : firstR L r = -1 ∨ ∃ q : Nat, firstR L r = (q : Int) := by
  rcases firstP_cases (badR L r) L.length with ⟨h1, h2⟩ | ⟨k, h1, h2, h3, h4⟩
  · exact Or.inl h1
  · exact Or.inr ⟨k, h1⟩
set_option maxRecDepth 100000 in
set_option maxHeartbeats 8000000 in
theorem implFUd (nm : ByteArray) (L : List Dat) (A : Option Addr) (n c : Nat) (w : World) (h : Lies w (.l L) [.slice A n c]) (ht : ∀ x ∈ L, Has tyInstr x) (hn : n ≤ 1099511627776) :
    Calls Tryz.prog 7 #[.agg #[.string nm, .slice A n c]] w (GivesInt (implFU (insL L)) w) := by
  have X0 : Hid (Boxed2 w (.string nm) (.slice A n c) (w.alloc (.cells #[.string nm, .slice A n c] 26))) := Lib.hid (Boxed2.mk_ w _ _ _)
  have H := Lib.hid h
  have HT := Lib.hid ht
  have HC := Lib.hid h.count
  have hnc := h.cap
  clear h ht
  go_enter Tryz.func7, Tryz.ntmps7
  go_wp2_with fail
  go_quiet (fail)
  have X1 : Hid (∀ k, Boxed2 w (.string nm) (.slice A n c) ((w.alloc (.cells #[.string nm, .slice A n c] 26)).drewN k)) := Lib.hid (fun k => X0.out.below (below_drewN (Below.refl _ _) k))
  go_wp2_with fail
  refine (implReads L A n c _ (H.out.below (X1.out _).2) HT.out hn).mono ?_
  rintro e w2 ⟨A2, m2, c2, rfl, hO2, hb2⟩
  have X2 := Lib.hid ((X1.out _).below hb2)
  have HZ := Lib.hid hO2.rz
  have hm2 : m2 ≤ 3 * n := by have h1 := hO2.1; have h2 := reads_len (insL L); rw [insL_len, HC.out] at h2; omega
  clear hO2 hb2 X1 X0
  go_wp2_with fail
  refine (onceI _ A2 m2 c2 _ HZ.out (by omega) (reads_in64 HT.out)).mono ?_
  rintro e w3 ⟨A3, m3, c3, rfl, hO3, hb3⟩
  have HB3 := Lib.hid (X2.out.2.trans (hb3.mono X2.out.2.size))
  have HR := Lib.hid hO3.lies
  have hm3 : m3 ≤ m2 := by have h1 := hO3.lies.count; have h2 := once_len (readsL (insL L)) []; rw [List.length_map] at h1; have h3 := HZ.out.1; simp at h2; omega
  clear hO3 hb3 X2
  have HRS : Hid (∀ r, r ∈ onceL [] (readsL (insL L)) ↔ r ∈ readsL (insL L)) := Lib.hid (fun r => by rw [once_mem]; simp)
  have HRL : Hid ((onceL [] (readsL (insL L))).length = m3) := Lib.hid (by have h1 := HR.out.count; rw [List.length_map] at h1; exact h1)
  generalize onceL [] (readsL (insL L)) = rs at *
  have F0 : Hid (FuS (insL L) rs 0 (-1) n) := Lib.hid (by have h1 := FuS.start (insL L) rs; rw [insL_len, HC.out] at h1; exact h1)
  go_wp2_with fail
  go_loopw [3, 4, 15] (fun fv cv kv wr => ∃ (f : Int) (p k : Nat), fv = .int .i64 f ∧ cv = .slice A p c ∧ kv = .int .i64 k ∧ k ≤ m3 ∧ FuS (insL L) rs k f p ∧ Below w3.heap.size w3 wr) (fun _ _ kv _ => m3 - (intOf kv).toNat)
  case atStart => exact ⟨-1, n, 0, rfl, rfl, rfl, Nat.zero_le _, F0.out, Below.refl _ _⟩
  case round =>
    obtain ⟨f, p, k, rfl, rfl, rfl, hk, hF, hb⟩ := hrel
    have F := Lib.hid hF
    have HB := Lib.hid hb
    have hpn : p ≤ n := by have h1 := hF.le.1; rw [insL_len, HC.out] at h1; exact h1
    clear hF hb F0
    by_cases hlt : k < m3
    · obtain ⟨b3, off3, r, rfl, hb3, hr, hc3⟩ := ints_at (HR.out.below HB.out) hlt
      have HRr := Lib.hid hr
      have HL := Lib.hid ((H.out.below (HB3.out.trans (HB.out.mono HB3.out.size))).cut hpn)
      have HTT : Hid (∀ x ∈ L.take p, Has tyInstr x) := Lib.hid (fun x hx => HT.out x (List.mem_of_mem_take hx))
      have HE : Hid (insL (L.take p) = (insL L).take p) := Lib.hid (insL_take L p)
      clear hr
      go_wp2_with fail
      refine (implFirst (L.take p) A p c r _ HL.out HTT.out (by omega)).mono ?_
      rintro e w4 ⟨rfl, hb4⟩
      rw [HE.out]
      have HB4 := Lib.hid (HB.out.trans (hb4.mono HB.out.size))
      clear hb4
      rcases firstR_ge ((insL L).take p) r with hg | ⟨q, hg⟩
      · have HN := Lib.hid (F.out.no HRr.out hg)
        have HG := Lib.hid hg
        clear hg
        rw [HG.out]
        go_wp2_with fail
        go_roundw
        case rel => exact ⟨f, p, k + 1, rfl, rfl, by go_num, by omega, HN.out, HB4.out⟩
        case measure => (simp [intOf]; try omega)
      · obtain ⟨hN, hqp⟩ := F.out.yes HRr.out hg
        have HN := Lib.hid hN
        have HG := Lib.hid hg
        clear hg hN
        rw [HG.out]
        obtain ⟨b, off, rfl⟩ : ∃ b off, A = some ⟨b, off, none⟩ := by
          obtain ⟨b, off, d, xs, e, -⟩ := H.out.elem (i := 0) (fun x hx => (HT.out x hx).width) (by omega)
          exact ⟨b, off, e⟩
        have hq1 : ((q : Int) != -1) = true := by simp <;> omega
        have hq2 : (0 : Int) ≤ q := by omega
        have hq3 : (q : Int) ≤ c := by omega
        have hc1 : ¬ c = 0 := by omega
        have hc2 : 0 < c := by omega
        go_wp2_with fail
        go_quiet (fail)
        go_wp2_with fail
        go_roundw
        case rel => exact ⟨q, q, k + 1, rfl, rfl, by go_num, by omega, HN.out, below_drewN HB4.out _⟩
        case measure => (simp [intOf]; try omega)
    · have HE := Lib.hid (F.out.done (by rw [HRL.out]; omega) HRS.out)
      have HBE := Lib.hid (HB3.out.trans (HB.out.mono HB3.out.size))
      go_wp2
      go_ret
      exact GivesInt.ret HE.out HBE.out
end Go.Proofs.YtgibhbplgiejpaaGreat
