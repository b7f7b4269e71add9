/- The exact law of ParseInstr. -/
import Derived.Test.YthgcodbcafpmhaaDoorPrsS
namespace Go.Proofs.YthgcodbcafpmhaaDoor
open Go.RowKit
set_option linter.unusedVariables false
set_option linter.unusedSimpArgs false
theorem specPrs (s : ByteArray) (w : World) (hs : s.size ≤ 1099511627776) : Calls Tryd.prog 9 #[.string s] w (GivesPI (parseI s.data.toList) w) := by
  have hl : ∀ x ∈ splitB 32 s.data.toList, x.length ≤ 140737488351232 := fun x hx => by
    have h1 := split_each 32 s.data.toList x hx
    have e : s.data.toList.length = s.size := rfl
    omega
  obtain ⟨op, hop⟩ : ∃ op, opW ((splitB 32 s.data.toList).headD []) = op := ⟨_, rfl⟩
  by_cases h4 : op = 4
  · subst h4; exact specPrs4 s w hs (Lib.hid hop) hl _ (Lib.hid rfl)
  · by_cases h10 : op = 10
    · subst h10; exact specPrs10 s w hs (Lib.hid hop) hl _ (Lib.hid rfl)
    · by_cases h5 : op = 5
      · subst h5; exact specPrs5 s w hs (Lib.hid hop) hl _ (Lib.hid rfl) _ (Lib.hid rfl) _ (Lib.hid rfl)
      · by_cases h6 : op = 6
        · subst h6; exact specPrs6 s w hs (Lib.hid hop) hl _ (Lib.hid rfl) _ (Lib.hid rfl) _ (Lib.hid rfl) _ (Lib.hid rfl) _ (Lib.hid rfl) (strW_size hl 3)
        · by_cases h7 : op = 7
          · subst h7; exact specPrs7 s w hs (Lib.hid hop) hl _ (Lib.hid rfl) _ (Lib.hid rfl) _ (Lib.hid rfl) _ (Lib.hid rfl) (strW_size hl 2)
          · exact specPrs0 s op ⟨by omega, h5, h6, h7⟩ w hs (Lib.hid hop) hl _ (Lib.hid rfl) _ (Lib.hid rfl)
theorem eqIns (op a b c d : Int) (nm : ByteArray) (w : World) : Calls Tryd.prog 11 #[.agg #[.int .i64 op, .int .i64 a, .int .i64 b, .int .i64 c, .int .i64 d, .string nm], .agg #[.int .i64 op, .int .i64 a, .int .i64 b, .int .i64 c, .int .i64 d, .string nm]] w (GivesBool true w) := by
  go_enter Tryd.func11, Tryd.ntmps11
  go_wp2
  go_ret
  exact GivesBool.ret (by go_grown)
set_option maxRecDepth 100000 in
set_option maxHeartbeats 2000000 in
theorem law_ParseInstrB (s : ByteArray) (x : I) (v : Bool) (W : World) (hV : Vars W) (hs : s.size ≤ 140737488351232) (hx : (parseI s.data.toList).getD zeroI = x) (hv : (parseI s.data.toList).isSome = v) : Calls Tryd.prog 4 #[.string s] W (GivesBool true W) := by
  have HV := Lib.hid hV
  obtain ⟨op, a, b, c, d, nm⟩ := x
  have HX := Lib.hid hx
  have HS := Lib.hid hv
  clear hV hx hv
  by_cases hbig : s.size ≤ 1048576
  · go_enter Tryd.func4, Tryd.ntmps4
    go_wp2_with fail
    refine (specPrs s _ (by omega)).mono ?_
    rintro e w1 ⟨rfl, hb1⟩
    rw [HX.out, HS.out]
    have B1 := Lib.hid (Box.new w1 #[.int .i64 op, .int .i64 a, .int .i64 b, .int .i64 c, .int .i64 d, .string nm] 26)
    have HB1 := Lib.hid (hb1.alloc hb1.size (.cells #[.int .i64 op, .int .i64 a, .int .i64 b, .int .i64 c, .int .i64 d, .string nm] 26))
    clear hb1
    go_wp2_with fail
    refine (implPrs s _ (by omega) (HV.out.below HB1.out)).mono ?_
    rintro e w2 ⟨rfl, hb2⟩
    rw [HX.out, HS.out]
    have B2 := Lib.hid ((B1.out.below hb2).alloc (.cells #[.int .i64 op, .int .i64 a, .int .i64 b, .int .i64 c, .int .i64 d, .string nm] 26))
    have B3 := Lib.hid (Box.new w2 #[.int .i64 op, .int .i64 a, .int .i64 b, .int .i64 c, .int .i64 d, .string nm] 26)
    have HB2 := Lib.hid ((HB1.out.trans (hb2.mono HB1.out.size)).alloc (HB1.out.trans (hb2.mono HB1.out.size)).size (.cells #[.int .i64 op, .int .i64 a, .int .i64 b, .int .i64 c, .int .i64 d, .string nm] 26))
    clear hb2
    obtain ⟨p0, p1, p2, p3, p4, p5⟩ := And.intro (B2.out.2 0 _ rfl) (And.intro (B2.out.2 1 _ rfl) (And.intro (B2.out.2 2 _ rfl) (And.intro (B2.out.2 3 _ rfl) (And.intro (B2.out.2 4 _ rfl) (B2.out.2 5 _ rfl)))))
    obtain ⟨q0, q1, q2, q3, q4, q5⟩ := And.intro (B3.out.2 0 _ rfl) (And.intro (B3.out.2 1 _ rfl) (And.intro (B3.out.2 2 _ rfl) (And.intro (B3.out.2 3 _ rfl) (And.intro (B3.out.2 4 _ rfl) (B3.out.2 5 _ rfl)))))
    go_wp2_with fail
    refine (eqIns op a b c d nm _).mono ?_
    rintro e w3 ⟨rfl, hb3⟩
    have HB3 := Lib.hid (HB2.out.trans (hb3.mono HB2.out.size))
    clear hb3
    cases v
    all_goals (
      go_wp2_with fail
      go_ret
      exact GivesBool.ret HB3.out)
  · go_enter Tryd.func4, Tryd.ntmps4
    go_wp2_with fail
    go_ret
    exact GivesBool.ret (Below.refl _ _)
theorem law_ParseInstr (s : ByteArray) (W : World) (hV : Vars W) (hs : s.size ≤ 140737488351232) : Calls Tryd.prog 4 #[.string s] W (GivesBool true W) := law_ParseInstrB s _ _ W hV hs rfl rfl
end Go.Proofs.YthgcodbcafpmhaaDoor
