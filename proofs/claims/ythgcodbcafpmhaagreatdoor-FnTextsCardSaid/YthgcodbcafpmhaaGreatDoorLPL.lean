/- The exact law of ParseLibrary. -/
import Derived.Test.YthgcodbcafpmhaaGreatDoorPLT
import Derived.Test.YthgcodbcafpmhaaGreatDoorTyA
import Derived.Test.YthgcodbcafpmhaaGreatDoorHeld
namespace Go.Proofs.YthgcodbcafpmhaaGreatDoor
open Go.RowKit
set_option linter.unusedVariables false
set_option linter.unusedSimpArgs false
def GivesPV (D : List Dat) (v : Bool) (w : World) (e : Ending) (w' : World) : Prop := ∃ A n c, e = .returned (.tuple #[.slice A n c, .bool v]) ∧ Owns w' (.l D) [.slice A n c] (fun b => w.heap.size ≤ b ∧ b < w'.heap.size) ∧ Below w.heap.size w w'
theorem specPLV (s : ByteArray) (D : List Dat) (v : Bool) (w : World) (hs : s.size ≤ 1099511627776) (hD : ((parseL s.data.toList).getD []).map datS = D) (hv : (parseL s.data.toList).isSome = v) : Calls Tryz.prog 13 #[.string s] w (GivesPV D v w) := by
  subst hD
  subst hv
  exact specPL s w hs
theorem implPLV (s : ByteArray) (D : List Dat) (v : Bool) (w : World) (hs : s.size ≤ 9223372036854775807) (hV : Vars w) (hD : ((parseL s.data.toList).getD []).map datS = D) (hv : (parseL s.data.toList).isSome = v) : Calls Tryz.prog 10 #[.string s] w (GivesPV D v w) := by
  subst hD
  subst hv
  exact implPL s w hs hV
theorem parse_facts (s : List UInt8) : Few 5000 ((parseL s).getD []) ∧ (∀ x ∈ ((parseL s).getD []).map datS, Has tyScript x) ∧ (Dat.l (((parseL s).getD []).map datS)).bulk ≤ 20050000 := by
  cases h : parseL s with
  | none => exact ⟨⟨Nat.zero_le _, fun x hx => (by cases hx)⟩, fun x hx => (by cases hx), Nat.zero_le _⟩
  | some L =>
    obtain ⟨h1, h2, h3⟩ := parseL_iff.1 h
    have e : readP (splitB 10 s) = L := by rw [← h3]; exact read_fmt h2
    have hlen := split_len 10 s
    have HL : ∀ x ∈ splitB 10 s, x.length ≤ 4000 := fun x hx => by have := split_each 10 s x hx; omega
    have hfew := readP_few (splitB 10 s) 5000
    have hfit := readP_fit HL 5000
    have hwt := readP_wt HL 5000
    rw [List.take_of_length_le (by omega), e] at hfew hfit hwt
    refine ⟨hfew, fit_has hfit hfew (by omega) (by omega), ?_⟩
    show (Dat.l (L.map datS)).bulk ≤ _
    rw [Dat.bulk, List.length_map]
    exact hwt
set_option maxRecDepth 100000 in
set_option maxHeartbeats 8000000 in
theorem law_PLB (s : ByteArray) (D : List Dat) (v : Bool) (W : World) (hV : Vars W) (hs : s.size ≤ 140737488351232) (hDt : ∀ x ∈ D, Has tyScript x) (hDl : D.length ≤ 5000) (hDk : cntAll D ≤ 6 * 20050000) (hD : ((parseL s.data.toList).getD []).map datS = D) (hv : (parseL s.data.toList).isSome = v) :
    Calls Tryz.prog 6 #[.string s] W (GivesBool true W) := by
  have HT := Lib.hid (Below.refl W.heap.size W)
  have HV := Lib.hid hV
  have HD := Lib.hid hD
  have HS := Lib.hid hv
  clear hV hD hv
  by_cases hz : s.size ≤ 1048576
  case neg =>
    go_enter Tryz.func6, Tryz.ntmps6
    go_wp2_with fail
    go_ret
    exact GivesBool.ret HT.out
  case pos =>
    go_enter Tryz.func6, Tryz.ntmps6
    go_wp2_with fail
    refine (specPLV s D v _ (by omega) HD.out HS.out).mono ?_
    rintro e w1 ⟨Ar, nr, cr, rfl, hO, hb⟩
    replace HT := Lib.hid (HT.out.trans (hb.mono HT.out.size))
    have hsw1 : W.heap.size ≤ w1.heap.size := by have h1 := hb.size; (try rw [World.size_alloc] at h1); exact h1
    have Hr : Hid (Owns w1 (.l D) [.slice Ar nr cr] (rng (W.heap.size) w1.heap.size)) := Lib.hid (hO.mono (fun b h1 => ⟨by have h2 := h1.1; (try rw [World.size_alloc] at h2); exact h2, h1.2⟩))
    clear hO
    clear hb
    have hnr : nr ≤ 5000 := by rw [← Hr.out.lies.count]; exact hDl
    have hcr := Lib.hid Hr.out.lies.count
    go_wp2_with fail
    refine (implPLV s D v _ (by omega) (HV.out.below HT.out) HD.out HS.out).mono ?_
    rintro e w2 ⟨Ag, ng, cg, rfl, hO, hb⟩
    replace Hr := Lib.hid (Hr.out.below hb)
    replace HT := Lib.hid (HT.out.trans (hb.mono HT.out.size))
    have hsw2 : w1.heap.size ≤ w2.heap.size := by have h1 := hb.size; (try rw [World.size_alloc] at h1); exact h1
    have Hg : Hid (Owns w2 (.l D) [.slice Ag ng cg] (rng (w1.heap.size) w2.heap.size)) := Lib.hid (hO.mono (fun b h1 => ⟨by have h2 := h1.1; (try rw [World.size_alloc] at h2); exact h2, h1.2⟩))
    clear hO
    clear hb
    obtain rfl : nr = ng := by rw [← Hg.out.lies.count, ← hcr.out]
    go_wp2_with fail
    refine (eqScriptS D Ag Ar nr nr cg cr _ Hg.out.lies Hr.out.lies hDt (by omega)).mono ?_
    rintro e w3 ⟨rfl, hb⟩
    replace Hr := Lib.hid (Hr.out.below hb)
    replace Hg := Lib.hid (Hg.out.below hb)
    replace HT := Lib.hid (HT.out.trans (hb.mono HT.out.size))
    have hsw3 : w2.heap.size ≤ w3.heap.size := by have h1 := hb.size; (try rw [World.size_alloc] at h1); exact h1
    clear hb
    go_wp2_with fail
    refine (markScriptS D Ag nr cg 1 (rng (w1.heap.size) (w2.heap.size)) _ Hg.out hDt (by omega) (by omega) (by omega)).mono ?_
    rintro e w4 ⟨rfl, hO, hb⟩
    replace Hr := Lib.hid (Hr.out.touch hb (rng_apart (by omega)))
    replace HT := Lib.hid (hb.low HT.out (by omega))
    have hsw4 : w3.heap.size ≤ w4.heap.size := hb.size
    replace Hg := Lib.hid hO
    clear hO hb
    have hk2 : (0 : Int) ≤ 1 + cntAll D := by omega
    go_wp2_with fail
    refine (heldScriptS D Ag nr cg 1 _ Hg.out.lies hDt (by omega) (by omega) (by omega)).mono ?_
    rintro e w5 ⟨rfl, hb⟩
    replace Hr := Lib.hid (Hr.out.below hb)
    replace Hg := Lib.hid (Hg.out.below hb)
    replace HT := Lib.hid (HT.out.trans (hb.mono HT.out.size))
    have hsw5 : w4.heap.size ≤ w5.heap.size := by have h1 := hb.size; (try rw [World.size_alloc] at h1); exact h1
    clear hb
    go_wp2_with fail
    refine (implPLV s D v _ (by omega) (HV.out.below HT.out) HD.out HS.out).mono ?_
    rintro e w6 ⟨Ah, nh, ch, rfl, hO, hb⟩
    replace Hr := Lib.hid (Hr.out.below hb)
    replace Hg := Lib.hid (Hg.out.below hb)
    replace HT := Lib.hid (HT.out.trans (hb.mono HT.out.size))
    have hsw6 : w5.heap.size ≤ w6.heap.size := by have h1 := hb.size; (try rw [World.size_alloc] at h1); exact h1
    have Hh : Hid (Owns w6 (.l D) [.slice Ah nh ch] (rng (w5.heap.size) w6.heap.size)) := Lib.hid (hO.mono (fun b h1 => ⟨by have h2 := h1.1; (try rw [World.size_alloc] at h2); exact h2, h1.2⟩))
    clear hO
    clear hb
    obtain rfl : nr = nh := by rw [← Hh.out.lies.count, ← hcr.out]
    go_wp2_with fail
    refine (eqScriptS D Ah Ar nr nr ch cr _ Hh.out.lies Hr.out.lies hDt (by omega)).mono ?_
    rintro e w7 ⟨rfl, hb⟩
    replace Hr := Lib.hid (Hr.out.below hb)
    replace Hg := Lib.hid (Hg.out.below hb)
    replace Hh := Lib.hid (Hh.out.below hb)
    replace HT := Lib.hid (HT.out.trans (hb.mono HT.out.size))
    have hsw7 : w6.heap.size ≤ w7.heap.size := by have h1 := hb.size; (try rw [World.size_alloc] at h1); exact h1
    clear hb
    go_wp2_with fail
    refine (heldScriptS D Ag nr cg 1 _ Hg.out.lies hDt (by omega) (by omega) (by omega)).mono ?_
    rintro e w8 ⟨rfl, hb⟩
    replace Hr := Lib.hid (Hr.out.below hb)
    replace Hg := Lib.hid (Hg.out.below hb)
    replace Hh := Lib.hid (Hh.out.below hb)
    replace HT := Lib.hid (HT.out.trans (hb.mono HT.out.size))
    have hsw8 : w7.heap.size ≤ w8.heap.size := by have h1 := hb.size; (try rw [World.size_alloc] at h1); exact h1
    clear hb
    go_wp2_with fail
    go_ret
    exact GivesBool.ret HT.out
theorem law_ParseLibrary (s : ByteArray) (W : World) (hV : Vars W) (hs : s.size ≤ 140737488351232) : Calls Tryz.prog 6 #[.string s] W (GivesBool true W) := by
  obtain ⟨h1, h2, h3⟩ := parse_facts s.data.toList
  exact law_PLB s _ _ W hV hs h2 (by rw [List.length_map]; exact h1.1) (cnt_few (t := tyScript) (by decide) h2 h3) rfl rfl
end Go.Proofs.YthgcodbcafpmhaaGreatDoor
