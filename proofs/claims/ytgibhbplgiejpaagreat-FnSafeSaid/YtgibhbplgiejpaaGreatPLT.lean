/- The reference's ParseLibrary. -/
import Derived.Test.YtgibhbplgiejpaaGreatPLS
import Derived.Test.YtgibhbplgiejpaaGreatPLJ
import Derived.Test.YtgibhbplgiejpaaGreatDisA
import Derived.Test.YtgibhbplgiejpaaGreatFrmA
namespace Go.Proofs.YtgibhbplgiejpaaGreat
open Go.RowKit
set_option linter.unusedVariables false
set_option linter.unusedSimpArgs false
theorem addL_s {L : List Scr} {l : List UInt8} (h : 7 < l.length ∧ l.take 7 = scriptW ++ [32]) : addL L l = some (L ++ [⟨⟨(l.drop 7).toArray⟩, []⟩]) := if_pos h
theorem addL_m {L : List Scr} {sc : Scr} {l : List UInt8} (h1 : ¬ (7 < l.length ∧ l.take 7 = scriptW ++ [32])) (h2 : 7 < l.length ∧ l.take 7 = methodW ++ [32]) : addL (L ++ [sc]) l = some (L ++ [⟨sc.name, sc.ms ++ [⟨⟨(l.drop 7).toArray⟩, []⟩]⟩]) := by
  rw [addL, if_neg h1, if_pos ⟨by simp, h2⟩, onLast_snoc]
  rfl
theorem addL_0 {l : List UInt8} (h1 : ¬ (7 < l.length ∧ l.take 7 = scriptW ++ [32])) : addL [] l = none := by
  rw [addL, if_neg h1, if_neg (by simp)]
  cases parseI l <;> rfl
theorem addL_n {L : List Scr} {l : List UInt8} (h1 : ¬ (7 < l.length ∧ l.take 7 = scriptW ++ [32])) (h2 : ¬ (7 < l.length ∧ l.take 7 = methodW ++ [32])) (h : parseI l = none) : addL L l = none := by
  rw [addL, if_neg h1, if_neg (fun e => h2 e.2), h]
theorem addL_e {L : List Scr} {snm : ByteArray} {l : List UInt8} (h1 : ¬ (7 < l.length ∧ l.take 7 = scriptW ++ [32])) (h2 : ¬ (7 < l.length ∧ l.take 7 = methodW ++ [32])) : addL (L ++ [⟨snm, []⟩]) l = none := by
  rw [addL, if_neg h1, if_neg (fun e => h2 e.2)]
  cases parseI l with
  | none => rfl
  | some x =>
    show onLast (addS x) _ = none
    rw [onLast_snoc]; rfl
theorem addL_i {L : List Scr} {snm mnm : ByteArray} {mi : List Meth} {code : List I} {l : List UInt8} {x : I} (h1 : ¬ (7 < l.length ∧ l.take 7 = scriptW ++ [32])) (h2 : ¬ (7 < l.length ∧ l.take 7 = methodW ++ [32])) (h : parseI l = some x) :
    addL (L ++ [⟨snm, mi ++ [⟨mnm, code⟩]⟩]) l = some (L ++ [⟨snm, mi ++ [⟨mnm, code ++ [x]⟩]⟩]) := by
  rw [addL, if_neg h1, if_neg (fun e => h2 e.2), h]
  show onLast (addS x) _ = _
  rw [onLast_snoc, addS, onLast_snoc]; rfl
theorem specAdd (L : List Scr) (A : Option Addr) (n c : Nat) (s : ByteArray) (lo : Nat) (B : Nat → Prop) (w : World) (h : LibG lo w A n c L B) (hlo : lo ≤ w.heap.size) (hf : Few 100000 L) (hs : s.size ≤ 1099511627776) :
    Calls Tryz.prog 97 #[.slice A n c, .string s] w (GivesAdd lo B (addL L s.data.toList) w) := by
  by_cases h1 : 7 < s.size ∧ s.data.toList.take 7 = scriptW ++ [32]
  · rw [addL_s h1]
    exact specAdd1 L A n c s lo B w h hlo hf hs h1.1 h1.2
  · rcases snoc_cases L with rfl | ⟨init, sc, rfl⟩
    · obtain rfl : n = 0 := h.count.symm
      rw [addL_0 h1]
      exact specAdd0 A c s lo B w hs h1
    · by_cases h2 : 7 < s.size ∧ s.data.toList.take 7 = methodW ++ [32]
      · rw [addL_m h1 h2]
        exact specAdd2 init sc A n c s lo B w h hlo hf hs h2.1 h2.2
      · obtain ⟨o, ho⟩ : ∃ o, parseI s.data.toList = o := ⟨_, rfl⟩
        cases o with
        | none =>
          rw [addL_n h1 h2 ho]
          have hc := h.count
          rw [List.length_append, List.length_singleton] at hc
          obtain ⟨k, rfl⟩ : ∃ k, n = k + 1 := ⟨_, hc.symm⟩
          have h3 := hf.1
          rw [List.length_append, List.length_singleton] at h3
          exact specAddN A k c s lo B w (by omega) hs h1 h2 ho
        | some x =>
          obtain ⟨op, a, b, c', d, nm⟩ := x
          obtain ⟨snm, ms⟩ := sc
          rcases snoc_cases ms with rfl | ⟨mi, m, rfl⟩
          · rw [addL_e h1 h2]
            exact specAddE init snm A n c s lo B w h hf hs h1 h2 op a b c' d nm ho
          · obtain ⟨mnm, code⟩ := m
            rw [addL_i h1 h2 ho]
            exact specAdd3 init snm mi mnm code A n c s lo B w h hlo hf hs h1 h2 op a b c' d nm ho
theorem foldL_app : ∀ (a b : List (List UInt8)) (L : List Scr), foldL (a ++ b) L = match foldL a L with | none => none | some M => foldL b M
  | [], b, L => rfl
  | l :: a, b, L => by
    rw [List.cons_append, foldL, foldL]
    cases addL L l with
    | none => rfl
    | some M => exact foldL_app a b M
theorem foldL_next {ws : List (List UInt8)} {i : Nat} {x : List UInt8} {L : List Scr} (hx : ws[i]? = some x) (h : foldL (ws.take i) [] = some L) : foldL (ws.take (i + 1)) [] = addL L x := by
  rw [List.take_add_one, hx, foldL_app, h]
  show foldL [x] L = _
  rw [foldL]
  cases addL L x <;> rfl
theorem foldL_none {ws : List (List UInt8)} {j : Nat} (h : foldL (ws.take j) [] = none) (hj : j ≤ ws.length - 1) : foldL ws.dropLast [] = none := by
  have h1 : ws.dropLast = ws.take j ++ ws.dropLast.drop j := by
    have h2 := List.take_append_drop j ws.dropLast
    rw [List.dropLast_eq_take, List.take_take, Nat.min_eq_left hj] at h2
    rw [List.dropLast_eq_take]
    exact h2.symm
  rw [h1, foldL_app, h]
theorem parse_fold_none {s : List UInt8} (h : foldL (splitB 10 s).dropLast [] = none) : parseL s = none := by
  rw [parseL, h]
  split <;> rfl
theorem parse_fold {s : List UInt8} {L : List Scr} (h : foldL (splitB 10 s).dropLast [] = some L) (hs : s.length ≤ 4000) : parseL s = if okL L = true ∧ fmtL L = s then some L else none := by
  rw [parseL, if_neg (by omega), h]
theorem Few.up {k k' : Nat} {L : List Scr} (h : Few k L) (hk : k ≤ k') : Few k' L := ⟨Nat.le_trans h.1 hk, fun s hs => ⟨Nat.le_trans (h.2 s hs).1 hk, fun m hm => Nat.le_trans ((h.2 s hs).2 m hm) hk⟩⟩
theorem bulk_app : ∀ (a b : List Dat), bulkAll (a ++ b) = bulkAll a + bulkAll b
  | [], b => by rw [List.nil_append, bulkAll]; omega
  | d :: a, b => by rw [List.cons_append, bulkAll, bulkAll, bulk_app a b]; omega
/-- How much a library weighs. -/
def wt (L : List Scr) : Nat := L.length + bulkAll (L.map datS)
def wtM (L : List Meth) : Nat := L.length + bulkAll (L.map datM)
theorem wt_snoc (L : List Scr) (s : Scr) : wt (L ++ [s]) = wt L + 1 + s.name.size + wtM s.ms := by
  rw [wt, List.length_append, List.map_append, bulk_app, wt]
  simp only [List.map_cons, List.map_nil, bulkAll, datS, Dat.bulk, List.length_map, List.length_singleton, wtM]
  omega
theorem wtM_snoc (L : List Meth) (m : Meth) : wtM (L ++ [m]) = wtM L + 1 + m.name.size + (m.code.length + bulkAll (m.code.map datI)) := by
  rw [wtM, List.length_append, List.map_append, bulk_app, wtM]
  simp only [List.map_cons, List.map_nil, bulkAll, datM, Dat.bulk, List.length_map, List.length_singleton]
  omega
theorem putM_wt {q : Nat} {L : List Meth} {l : List UInt8} (hl : l.length ≤ q) : wtM (putM l L) ≤ wtM L + q + 10 := by
  unfold putM
  split
  · rw [wtM_snoc]
    have h1 := drop_size l hl
    simp only [List.length_nil, List.map_nil, bulkAll]
    omega
  · split
    · omega
    · rename_i x hx
      rcases snoc_cases L with rfl | ⟨mi, m, rfl⟩
      · show wtM [] ≤ _
        omega
      · rw [modLast_snoc, wtM_snoc, wtM_snoc]
        have h1 := isI_name (parse_iff.1 hx).1
        have h2 : (nameW x.name).length = x.name.size := rfl
        show _ + 1 + _ + ((m.code ++ [x]).length + bulkAll ((m.code ++ [x]).map datI)) ≤ _
        rw [List.length_append, List.map_append, bulk_app]
        simp only [List.map_cons, List.map_nil, bulkAll, datI, Dat.bulk, List.length_singleton]
        have h3 : (codeP x m).name.size = m.name.size := rfl
        omega
theorem lineP_wt {q : Nat} {L : List Scr} {l : List UInt8} (hl : l.length ≤ q) : wt (lineP L l) ≤ wt L + q + 10 := by
  unfold lineP
  split
  · rw [wt_snoc]
    have h1 := drop_size l hl
    have h2 : wtM [] = 0 := rfl
    show _ + 1 + (⟨(l.drop 7).toArray⟩ : ByteArray).size + wtM [] ≤ _
    omega
  · rcases snoc_cases L with rfl | ⟨init, s, rfl⟩
    · show wt [] ≤ _
      omega
    · rw [modLast_snoc, wt_snoc, wt_snoc]
      have h1 := putM_wt (L := s.ms) hl
      show _ + 1 + s.name.size + wtM (putM l s.ms) ≤ _
      omega
theorem readP_wt {ws : List (List UInt8)} (hl : ∀ x ∈ ws, x.length ≤ 4000) : ∀ i, wt (readP (ws.take i)) ≤ i * 4010
  | 0 => Nat.le_refl _
  | i + 1 => by
    have h1 := readP_wt hl i
    rw [Nat.add_mul]
    cases h : ws[i]? with
    | none =>
      have e : ws.take (i + 1) = ws.take i := by
        rw [List.take_add_one, h]
        exact List.append_nil _
      have h2 : wt (readP (ws.take (i + 1))) = wt (readP (ws.take i)) := congrArg (fun t => wt (readP t)) e
      omega
    | some x =>
      have h3 : wt (readP (ws.take (i + 1))) = wt (lineP (readP (ws.take i)) x) := congrArg wt (readP_next h)
      have h2 := lineP_wt (L := readP (ws.take i)) (hl x (List.mem_of_getElem? h))
      omega
set_option maxRecDepth 100000 in
set_option maxHeartbeats 8000000 in
theorem specPL (s : ByteArray) (w : World) (hs : s.size ≤ 1099511627776) : Calls Tryz.prog 76 #[.string s] w (GivesPL (parseL s.data.toList) w) := by
  by_cases hbig : s.size ≤ 4000
  · have hlen := split_len 10 s.data.toList
    have HEA := Lib.hid (split_each 10 s.data.toList)
    have HSN := Lib.hid (split_ne 10 s.data.toList)
    have hsl : s.data.toList.length = s.size := rfl
    rw [hsl] at hlen HEA
    have HL : Hid (∀ x ∈ splitB 10 s.data.toList, x.length ≤ 4000) := Lib.hid (fun x hx => by have := HEA.out x hx; omega)
    have HP0 : Hid (foldL (splitB 10 s.data.toList).dropLast [] = none → parseL s.data.toList = none) := Lib.hid parse_fold_none
    have HP1 : Hid (∀ L, foldL (splitB 10 s.data.toList).dropLast [] = some L → parseL s.data.toList = if okL L = true ∧ fmtL L = s.data.toList then some L else none) := Lib.hid (fun L h => parse_fold h (by rw [hsl]; exact hbig))
    clear hsl HEA
    obtain ⟨ws, hws⟩ : ∃ ws, splitB 10 s.data.toList = ws := ⟨_, rfl⟩
    rw [hws] at hlen HL HP0 HP1 HSN
    have HWS := Lib.hid hws
    clear hws
    have HFEW := Lib.hid (readP_few ws)
    have HFIT := Lib.hid (readP_fit HL.out)
    have HWT := Lib.hid (readP_wt HL.out)
    go_enter Tryz.func76, Tryz.ntmps76
    go_wp2_with fail
    refine (specSplit s 10 _ (by omega)).mono ?_
    rintro e w1 ⟨A1, n1, c1, rfl, hW1, hb1⟩
    rw [HWS.out] at hW1
    have hn1 : n1 ≤ 4001 := by rw [← hW1.1]; omega
    have hpos : 0 < n1 := by rw [← hW1.1]; exact List.length_pos_iff.2 HSN.out
    obtain ⟨m, rfl⟩ : ∃ m, n1 = m + 1 := ⟨n1 - 1, by omega⟩
    have HW1 := Lib.hid hW1
    have HB1 := Lib.hid hb1
    have C0 : Hid (LibO w1 (some ⟨w1.heap.size, 0, none⟩) 0 0 [] (w1.alloc (.cells #[] 37))) := Lib.hid ⟨GrowP.lit0 (scrE w1.heap.size) _ w1.heap.size w1 (Nat.le_refl _) _ ⟨Nat.le_refl _, by simp⟩, (Below.refl _ _).alloc (Nat.le_refl _) _⟩
    clear hb1 hW1
    have z0 : ((m : Int) + 1 - 1) = m := by omega
    go_wp2_with fail
    go_loopw [5, 6, 7, 8] (fun lv iv _ _ wr => ∃ (i nl cl : Nat) (Al : Option Addr) (L : List Scr), i ≤ m ∧ iv = .int .i64 i ∧ lv = .slice Al nl cl ∧ LibO w1 Al nl cl L wr ∧ foldL (ws.take i) [] = some L) (fun _ iv _ _ _ => m - (RowKit.intOf iv).toNat)
    case atStart => exact ⟨0, 0, 0, _, [], Nat.zero_le _, rfl, rfl, C0.out, rfl⟩
    case round =>
      obtain ⟨i, nl, cl, Al, L, hin, rfl, rfl, hR, hfold⟩ := hrel
      have HR := Lib.hid hR
      have HF := Lib.hid hfold
      have HLL : Hid (readP (ws.take i) = L) := Lib.hid (line_fold hfold)
      have hlow := hR.2.size
      have hfew : Few i L := by rw [← HLL.out]; exact HFEW.out i
      have hfit : Fit 4000 L := by rw [← HLL.out]; exact HFIT.out i
      have hwt : wt L ≤ i * 4010 := by rw [← HLL.out]; exact HWT.out i
      have hnl : nl ≤ 5000 := by rw [← hR.1.count]; exact Nat.le_trans hfew.1 (by omega)
      have HFW : Hid (Few 100000 L) := Lib.hid (hfew.up (by omega))
      have HHAS := Lib.hid (fit_has hfit hfew (by omega) (by omega))
      have hq : (Dat.l (L.map datS)).bulk ≤ 1099511627776 := by
        rw [Dat.bulk, List.length_map]
        have h2 : i * 4010 ≤ 4001 * 4010 := Nat.mul_le_mul_right _ (by omega)
        have h3 : wt L = L.length + bulkAll (L.map datS) := rfl
        omega
      have HQ := Lib.hid hq
      clear hR C0 hfold hfew hfit hwt hq
      by_cases hlt : i < m
      · obtain ⟨b, off, x, rfl, hbw, hx, hc⟩ := (HW1.out.below HR.out.2).at_ (show i < m + 1 by omega)
        have HNX := Lib.hid (foldL_next hx HF.out)
        have hxl := HL.out x (List.mem_of_getElem? hx)
        have hxs : (strB x).size ≤ 1099511627776 := by show x.toArray.size ≤ _; rw [List.size_toArray]; omega
        have hi0 : (0 : Int) ≤ i := by omega
        have hi1 : (i : Int) < m + 1 := by omega
        have hi2 : (i : Int) < m := by omega
        clear hx hxl
        go_wp2_with fail
        refine (specAdd L Al nl cl (strB x) w1.heap.size (fun b => w1.heap.size ≤ b ∧ b < wr.heap.size) _ HR.out.1 hlow HFW.out hxs).mono ?_
        rintro e w4 ⟨A2, n2, c2, rfl, hT, hG⟩
        have hxx : (strB x).data.toList = x := rfl
        rw [hxx] at hG ⊢
        obtain ⟨o, ho⟩ : ∃ o, addL L x = o := ⟨_, rfl⟩
        rw [ho] at hG ⊢
        have HNY : Hid (foldL (ws.take (i + 1)) [] = o) := Lib.hid (HNX.out.trans ho)
        have HB4 : Hid (Below w.heap.size w w4) := Lib.hid (HB1.out.trans ((HR.out.2.trans (hT.below (fun b hb => hb.1) hlow)).mono HB1.out.size))
        cases o with
        | none =>
          have HN := Lib.hid (HP0.out (foldL_none HNY.out (by have := HW1.out.1; omega)))
          clear hG hT ho
          go_wp2_with fail
          go_ret2
          exact GivesPL.none_ HN.out (HB4.out.alloc HB4.out.size _)
        | some M =>
          have HO : Hid (LibO w1 A2 n2 c2 M w4) := Lib.hid (HR.out.put (hG M rfl) hT)
          clear hG hT ho
          go_wp2_with fail
          go_roundw
          case rel => exact ⟨i + 1, _, _, _, M, by omega, by go_num, rfl, HO.out, HNY.out⟩
          case measure => simp [RowKit.intOf]; omega
      · obtain rfl : i = m := by omega
        have hdl : ws.take i = ws.dropLast := by rw [List.dropLast_eq_take, HW1.out.1]; rfl
        have HPL := Lib.hid (HP1.out L (by rw [← hdl]; exact HF.out))
        obtain ⟨v, hv⟩ : ∃ v, okL L = v := ⟨_, rfl⟩
        have HVV := Lib.hid hv
        have HIL : Hid (isLib (L.map datS) = v) := Lib.hid ((isLib_dat L).trans hv)
        have HO := Lib.hid (HR.out.own HB1.out)
        clear hdl hv
        go_wp2_with fail
        refine (specLib (L.map datS) Al nl cl _ HO.out.1.lies HHAS.out HQ.out).mono ?_
        rintro e w3 ⟨rfl, hb3⟩
        rw [HIL.out]
        replace HO := Lib.hid (HO.out.below hb3)
        clear hb3
        cases v with
        | false =>
          have HN : Hid (parseL s.data.toList = none) := Lib.hid (by rw [HPL.out, if_neg (fun h => by rw [HVV.out] at h; cases h.1)])
          go_wp2_with fail
          go_ret2
          exact GivesPL.none_ HN.out (HO.out.2.alloc HO.out.2.size _)
        | true =>
          go_wp2_with fail
          refine (specFrmL L Al nl cl _ HO.out.1.lies HHAS.out HQ.out).mono ?_
          rintro e w4 ⟨rfl, hb4⟩
          replace HO := Lib.hid (HO.out.below hb4)
          clear hb4
          by_cases he : fmtL L = s.data.toList
          · have HN : Hid (parseL s.data.toList = some L) := Lib.hid (by rw [HPL.out, if_pos ⟨HVV.out, he⟩])
            have hes : strB (fmtL L) = s := by rw [he]; rfl
            rw [hes]
            have hq1 : (s.toList != s.toList) = false := by simp
            clear he hes
            go_wp2_with fail
            go_ret2
            exact GivesPL.some_ HN.out HO.out
          · have HN : Hid (parseL s.data.toList = none) := Lib.hid (by rw [HPL.out, if_neg (fun h => he h.2)])
            have h1 := str_ne (fmtL_ne he)
            have h2 := str_ne' (fmtL_ne he)
            have h3 : ((strB (fmtL L)).toList != s.toList) = true := by rw [bne, h1]; rfl
            generalize strB (fmtL L) = t at *
            clear he
            go_wp2_with fail
            go_ret2
            exact GivesPL.none_ HN.out (HO.out.2.alloc HO.out.2.size _)
  · have HN : Hid (parseL s.data.toList = none) := Lib.hid (lib_long (by show 4000 < s.size; omega))
    go_enter Tryz.func76, Tryz.ntmps76
    go_wp2_with fail
    go_ret2
    exact GivesPL.none_ HN.out ((Below.refl _ _).alloc (Nat.le_refl _) _)
theorem parse_facts (s : List UInt8) : Few 5000 ((parseL s).getD []) ∧ (∀ x ∈ ((parseL s).getD []).map datS, Has tyScript x) ∧ (Dat.l (((parseL s).getD []).map datS)).bulk ≤ 20050000 := by
  cases h : parseL s with
  | none => exact ⟨⟨Nat.zero_le _, fun x hx => (by cases hx)⟩, fun x hx => (by cases hx), Nat.zero_le _⟩
  | some L =>
    obtain ⟨h1, h2, h3⟩ := parseL_iff.1 h
    have e : readP (splitB 10 s) = L := by rw [← h3]; exact read_fmt h2
    have hlen := split_len 10 s
    have HL : ∀ x ∈ splitB 10 s, x.length ≤ 4000 := fun x hx => by have := split_each 10 s x hx; omega
    have hfew := readP_few (splitB 10 s) 5000
    have hfit := readP_fit HL 5000
    have hwt := readP_wt HL 5000
    rw [List.take_of_length_le (by omega), e] at hfew hfit hwt
    refine ⟨hfew, fit_has hfit hfew (by omega) (by omega), ?_⟩
    show (Dat.l (L.map datS)).bulk ≤ _
    rw [Dat.bulk, List.length_map]
    exact hwt
end Go.Proofs.YtgibhbplgiejpaaGreat
