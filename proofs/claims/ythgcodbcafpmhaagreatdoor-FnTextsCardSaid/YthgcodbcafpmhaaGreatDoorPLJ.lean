/- The program's ParseLibrary. -/
import Derived.Test.YthgcodbcafpmhaaGreatDoorPLI
import Derived.Test.YthgcodbcafpmhaaGreatDoorFrmA
namespace Go.Proofs.YthgcodbcafpmhaaGreatDoor
open Go.RowKit
set_option linter.unusedVariables false
set_option linter.unusedSimpArgs false
theorem readP_next {ws : List (List UInt8)} {i : Nat} {x : List UInt8} (h : ws[i]? = some x) : readP (ws.take (i + 1)) = lineP (readP (ws.take i)) x := by
  rw [readP, List.take_add_one, h, List.foldl_append]
  rfl
theorem readP_few (ws : List (List UInt8)) : ∀ i, Few i (readP (ws.take i))
  | 0 => ⟨Nat.le_refl _, fun s hs => by cases hs⟩
  | i + 1 => by
    cases h : ws[i]? with
    | none =>
      rw [List.take_add_one, h]
      have h1 := readP_few ws i
      simp only [Option.toList, List.append_nil]
      exact ⟨Nat.le_succ_of_le h1.1, fun s hs => ⟨Nat.le_succ_of_le (h1.2 s hs).1, fun m hm => Nat.le_succ_of_le ((h1.2 s hs).2 m hm)⟩⟩
    | some x => rw [readP_next h]; exact lineP_few (readP_few ws i) x
theorem readP_fit {ws : List (List UInt8)} {q : Nat} (hl : ∀ x ∈ ws, x.length ≤ q) : ∀ i, Fit q (readP (ws.take i))
  | 0 => fun s hs => by cases hs
  | i + 1 => by
    cases h : ws[i]? with
    | none =>
      rw [List.take_add_one, h]
      simp only [Option.toList, List.append_nil]
      exact readP_fit hl i
    | some x => rw [readP_next h]; exact lineP_fit (readP_fit hl i) (hl x (List.mem_of_getElem? h))
theorem lineP_head {l : List UInt8} {L : List Scr} (h : isHead scriptW l = true) : lineP L l = L ++ [⟨⟨(l.drop 7).toArray⟩, []⟩] := by rw [lineP, if_pos h]
theorem lineP_nil {l : List UInt8} (h : isHead scriptW l = false) : lineP [] l = [] := by rw [lineP, if_neg (by rw [h]; decide)]; rfl
theorem lineP_snoc {l : List UInt8} {L : List Scr} {s : Scr} (h : isHead scriptW l = false) : lineP (L ++ [s]) l = L ++ [⟨s.name, putM l s.ms⟩] := by
  rw [lineP, if_neg (by rw [h]; decide)]
  exact modLast_snoc _ s L
/-- All that is owned lies from lo on. -/
def LibO (w : World) (A : Option Addr) (n c : Nat) (L : List Scr) (wr : World) : Prop := LibG w.heap.size wr A n c L (fun b => w.heap.size ≤ b ∧ b < wr.heap.size) ∧ Below w.heap.size w wr
/-- A library comes back. -/
def GivesLib (L : List Scr) (w : World) (e : Ending) (w' : World) : Prop := ∃ A n c, e = .returned (.slice A n c) ∧ LibO w A n c L w'
theorem LibO.below {w wr w' : World} {A : Option Addr} {n c : Nat} {L : List Scr} (h : LibO w A n c L wr) (hb : Below wr.heap.size wr w') : LibO w A n c L w' :=
  ⟨(h.1.below hb).mono (fun b h1 => ⟨h1.1, Nat.lt_of_lt_of_le h1.2 hb.size⟩), h.2.trans (hb.mono h.2.size)⟩
theorem LibO.put {w wr w' : World} {A A' : Option Addr} {n n' c c' : Nat} {L L' : List Scr} (h : LibO w A n c L wr) (hG : LibG w.heap.size w' A' n' c' L' (more (fun b => w.heap.size ≤ b ∧ b < wr.heap.size) wr w')) (ht : Touch (fun b => w.heap.size ≤ b ∧ b < wr.heap.size) wr w') : LibO w A' n' c' L' w' := by
  have h1 := h.2.size
  have h2 := ht.size
  refine ⟨hG.mono (fun b hb => ?_), h.2.trans (ht.below (fun b hb => hb.1) h1)⟩
  rcases hb with hb | hb
  · exact ⟨hb.1, by omega⟩
  · exact ⟨by omega, hb.2⟩
theorem putL {lo n c g k : Nat} {w w4 : World} {A A2 : Option Addr} {n2 c2 : Nat} {B Bx : Nat → Prop} {init : List Scr} {nm : ByteArray} {ms : List Meth} (hBx : ∀ b, Bx b → B b ∧ b ≠ g ∧ b < w.heap.size) (hBg : B g)
    (hput : ∀ (w' : World) (A2 : Option Addr) (n2 c2 : Nat) (ms : List Meth) (Bx' : Nat → Prop), Touch Bx w w' → MetG lo w' A2 n2 c2 ms Bx' → (∀ b, Bx' b → Bx b ∨ (w.heap.size ≤ b ∧ b < w'.heap.size)) → LibG lo (w'.setCell ⟨g, k * 2 + 1, none⟩ (.slice A2 n2 c2)) A n c (init ++ [⟨nm, ms⟩]) (more B w w'))
    (hG : MetG lo w4 A2 n2 c2 ms (more Bx w w4)) (hT : Touch Bx w w4) :
    LibG lo (w4.setCell ⟨g, k * 2 + 1, none⟩ (.slice A2 n2 c2)) A n c (init ++ [⟨nm, ms⟩]) (more B w (w4.setCell ⟨g, k * 2 + 1, none⟩ (.slice A2 n2 c2))) ∧ Touch B w (w4.setCell ⟨g, k * 2 + 1, none⟩ (.slice A2 n2 c2)) := by
  refine ⟨(hput w4 A2 n2 c2 ms _ hT hG (fun b hb => hb)).mono (fun b hb => ?_), (hT.mono (fun b hb => (hBx b hb).1)).setCell (by exact hBg) _⟩
  rcases hb with hb | hb
  · exact Or.inl hb
  · exact Or.inr ⟨hb.1, by simpa [World.setCell] using hb.2⟩
set_option maxRecDepth 100000 in
set_option maxHeartbeats 8000000 in
theorem implRL (ws : List (List UInt8)) (A : Option Addr) (n c : Nat) (w : World) (h : Words w A n ws) (hn : n ≤ 5000) (hl : ∀ x ∈ ws, x.length ≤ 4000) (hV : Vars w) :
    Calls Tryz.prog 36 #[.slice A n c] w (GivesLib (readP ws) w) := by
  obtain ⟨i0, hi, hz0, hz1, hz2⟩ := info_parts infoScript
  have H := Lib.hid h
  have HV := Lib.hid hV
  have HL := Lib.hid hl
  have HF := Lib.hid (readP_few ws)
  have C0 : Hid (LibO w (some ⟨w.heap.size, 0, none⟩) 0 0 (readP (ws.take 0)) (w.alloc (.cells #[] 44))) := Lib.hid ⟨GrowP.lit0 (scrE w.heap.size) _ w.heap.size w (Nat.le_refl _) _ ⟨Nat.le_refl _, by simp⟩, (Below.refl _ _).alloc (Nat.le_refl _) _⟩
  clear h hl hV
  go_enter Tryz.func36, Tryz.ntmps36
  go_wp2_with fail
  go_loopw [3, 5, 6, 7, 8, 12] (fun lv _ _ _ _ iv wr => ∃ (i nl cl : Nat) (Al : Option Addr), i ≤ n ∧ iv = .int .i64 i ∧ lv = .slice Al nl cl ∧ LibO w Al nl cl (readP (ws.take i)) wr) (fun _ _ _ _ _ iv _ => n - (RowKit.intOf iv).toNat)
  case atStart => exact ⟨0, 0, 0, _, Nat.zero_le _, rfl, rfl, C0.out⟩
  case round =>
    obtain ⟨i, nl, cl, Al, hin, rfl, rfl, hR⟩ := hrel
    have HR := Lib.hid hR
    have hlow := hR.2.size
    have hnl : nl ≤ 5000 := by rw [← hR.1.count]; exact Nat.le_trans (HF.out i).1 (by omega)
    clear hR C0
    by_cases hlt : i < n
    · obtain ⟨b, off, x, rfl, hbw, hx, hc⟩ := (H.out.below HR.out.2).at_ hlt
      have HX := Lib.hid (readP_next hx)
      have hxl := HL.out x (List.mem_of_getElem? hx)
      have hxs : (strB x).size ≤ 1099511627776 := by show x.toArray.size ≤ _; rw [List.size_toArray]; omega
      have hi0 : (0 : Int) ≤ i := by omega
      have hi1 : (i : Int) < n := by omega
      obtain ⟨v, hv⟩ : ∃ v, isHead scriptW (strB x).data.toList = v := ⟨_, rfl⟩
      have HH := Lib.hid hv
      clear hx hxl hv
      cases v with
      | true =>
        have HC : Hid (cutB scriptW (strB x) = ⟨(x.drop 7).toArray⟩) := Lib.hid (cutB_yes HH.out)
        have HN := Lib.hid (lineP_head (L := readP (ws.take i)) (l := x) HH.out)
        go_wp2_with fail
        refine (cutS (strB x) _).mono ?_
        rintro e w1 ⟨rfl, rfl⟩
        rw [HH.out, HC.out]
        generalize (⟨(x.drop 7).toArray⟩ : ByteArray) = nm at *
        go_wp2_with (at_builtin; refine wpList_append_new _ (scrE w.heap.size) rfl _ _ 24 rfl 44 i0 (.agg #[.string ⟨#[]⟩, .slice none 0 0]) 40 Tryz.underlying24 hi hz0 hz1 rfl hz2 w.heap.size Al nl cl (readP (ws.take i)) (fun b => w.heap.size ≤ b ∧ b < wr.heap.size) rfl (HR.out.1.below ((Below.refl _ _).alloc (Nat.le_refl _) _)) _ 1 ⟨nm, []⟩ [.string nm, .slice none 0 0] rfl ?hrd (newScr w.heap.size nm) ?h63 ?hby ?hlo ?_; (case hrd => exact Rd.litAt _ _ _ _ (by simp)); (case h63 => (unfold maxLen; omega)); (case hby => omega); (case hlo => (simp; omega)); intro A3 c3 w3 hG hT; have HO : Hid (LibO w A3 (nl + 1) c3 (readP (ws.take i) ++ [⟨nm, []⟩]) w3) := Lib.hid (HR.out.put (LibG.mono hG (fun b hb => by rcases hb with hb | hb; exact Or.inl hb; exact Or.inr ⟨by have h1 := hb.1; rw [World.size_alloc] at h1; omega, hb.2⟩)) ((Touch.of_below ((Below.refl _ _).alloc (Nat.le_refl _) _)).trans hT)); clear hG hT)
        go_roundw
        case rel => exact ⟨i + 1, _, _, _, by omega, by go_num, rfl, by rw [HX.out, HN.out]; exact HO.out⟩
        case measure => simp [RowKit.intOf]; omega
      | false =>
        rcases snoc_cases (readP (ws.take i)) with hnil | ⟨init, sc, hsn⟩
        · have HN : Hid (readP (ws.take (i + 1)) = readP (ws.take i)) := Lib.hid (by rw [HX.out, hnil]; exact lineP_nil HH.out)
          obtain rfl : nl = 0 := by rw [← HR.out.1.count, hnil]; rfl
          clear hnil
          go_wp2_with fail
          refine (cutS (strB x) _).mono ?_
          rintro e w1 ⟨rfl, rfl⟩
          rw [HH.out]
          go_wp2_with fail
          go_roundw
          case rel => exact ⟨i + 1, _, _, _, by omega, by go_num, rfl, by rw [HN.out]; exact HR.out⟩
          case measure => simp [RowKit.intOf]; omega
        · have HN : Hid (readP (ws.take (i + 1)) = init ++ [⟨sc.name, putM x sc.ms⟩]) := Lib.hid (by rw [HX.out, hsn]; exact lineP_snoc HH.out)
          have hfew : FewM 100000 sc.ms := by
            have h1 := (HF.out i).2 sc (by rw [hsn]; simp)
            exact ⟨by omega, fun m hm => by have := h1.2 m hm; omega⟩
          have hRl := HR.out
          rw [hsn] at hRl
          obtain ⟨g, A1, n1, c1, Bx, rfl, hnn, ⟨hlg, hgw⟩, hM, ⟨q0, q1⟩, hfz, hBx, -, hput, hBg⟩ := hRl.1.last
          obtain ⟨k, hk⟩ : ∃ k, init.length = k := ⟨_, rfl⟩
          rw [hk] at q0 q1 hput hnn
          subst hnn
          have HM := Lib.hid hM
          have HPUT := Lib.hid hput
          have HBX := Lib.hid hBx
          have HFZ := Lib.hid hfz
          have HQ := Lib.hid q1
          have HRL := Lib.hid hRl
          have z0 : ((k : Int) + 1 - 1) = k := by omega
          have z1 : (0 : Int) ≤ k := by omega
          have z2 : (k : Int) < k + 1 := by omega
          clear hM hput hBx hfz hk hsn hRl
          go_wp2_with fail
          refine (cutS (strB x) _).mono ?_
          rintro e w1 ⟨rfl, rfl⟩
          rw [HH.out]
          go_wp2_with fail
          refine (implPut sc.ms A1 n1 c1 (strB x) w.heap.size Bx _ HM.out hlow hfew hxs (HV.out.below HR.out.2)).mono ?_
          rintro e w4 ⟨A2, n2, c2, rfl, hG, hT⟩
          have hs4 := hT.size
          have p1 := (hT.cell (p := ⟨g, k * 2 + 1, none⟩) hgw (fun hb => (HBX.out _ hb).2.1 rfl)).trans HQ.out
          have f1 := (hT.frozen (p := ⟨g, k * 2 + 1, none⟩) hgw (fun hb => (HBX.out _ hb).2.1 rfl)).trans (HFZ.out _)
          have hP := putL HBX.out hBg HPUT.out hG hT
          have HO := Lib.hid (HRL.out.put hP.1 hP.2)
          clear hG hT hP q0 q1
          go_wp2_with fail
          go_roundw
          case rel => exact ⟨i + 1, _, _, _, by omega, by go_num, rfl, by rw [HN.out]; exact HO.out⟩
          case measure => simp [RowKit.intOf]; omega
    · obtain rfl : i = n := by omega
      have HN : Hid (readP (ws.take i) = readP ws) := Lib.hid (by rw [List.take_of_length_le (Nat.le_of_eq H.out.1)])
      go_wp2_with fail
      go_ret
      exact ⟨_, _, _, rfl, HN.out ▸ HR.out⟩
/-- A library comes back, or none. -/
def GivesPL (o : Option (List Scr)) (w : World) (e : Ending) (w' : World) : Prop :=
  ∃ A n c, e = .returned (.tuple #[.slice A n c, .bool o.isSome]) ∧ Owns w' (.l ((o.getD []).map datS)) [.slice A n c] (fun b => w.heap.size ≤ b ∧ b < w'.heap.size) ∧ Below w.heap.size w w'
theorem GivesPL.none_ {o : Option (List Scr)} {w w' : World} {A : Option Addr} {c : Nat} (h : o = none) (hb : Below w.heap.size w w') : GivesPL o w (.returned (.tuple #[.slice A 0 c, .bool false])) w' := by
  subst h
  refine ⟨A, 0, c, rfl, ?_, hb⟩
  show Owns w' (.l []) _ _
  rw [Owns]
  exact ⟨A, 0, c, rfl, rfl, Or.inl rfl⟩
/-- A library that the call owns. -/
def OwnL (w : World) (A : Option Addr) (n c : Nat) (L : List Scr) (wr : World) : Prop := Owns wr (.l (L.map datS)) [.slice A n c] (fun b => w.heap.size ≤ b ∧ b < wr.heap.size) ∧ Below w.heap.size w wr
theorem OwnL.below {w wr w' : World} {A : Option Addr} {n c : Nat} {L : List Scr} (h : OwnL w A n c L wr) (hb : Below wr.heap.size wr w') : OwnL w A n c L w' :=
  ⟨(h.1.below hb).mono (fun b h1 => ⟨h1.1, Nat.lt_of_lt_of_le h1.2 hb.size⟩), h.2.trans (hb.mono h.2.size)⟩
theorem LibO.own {w0 w wr : World} {A : Option Addr} {n c : Nat} {L : List Scr} (h : LibO w A n c L wr) (hb : Below w0.heap.size w0 w) : OwnL w0 A n c L wr :=
  ⟨h.1.owns.mono (fun b h1 => ⟨Nat.le_trans hb.size h1.1, h1.2⟩), hb.trans (h.2.mono hb.size)⟩
theorem GivesPL.some_ {o : Option (List Scr)} {L : List Scr} {w w' : World} {A : Option Addr} {n c : Nat} (h : o = some L) (hL : OwnL w A n c L w') : GivesPL o w (.returned (.tuple #[.slice A n c, .bool true])) w' := by
  subst h
  exact ⟨A, n, c, rfl, hL.1, hL.2⟩
theorem fmtL_ne {L : List Scr} {s : ByteArray} (h : fmtL L ≠ s.data.toList) : ¬ strB (fmtL L) = s := fun e => h (by rw [← e]; rfl)
set_option maxRecDepth 100000 in
set_option maxHeartbeats 8000000 in
theorem implPL (s : ByteArray) (w : World) (hs : s.size ≤ 9223372036854775807) (hV : Vars w) : Calls Tryz.prog 10 #[.string s] w (GivesPL (parseL s.data.toList) w) := by
  have HV := Lib.hid hV
  clear hV
  by_cases hbig : s.size ≤ 4000
  · have hlen := split_len 10 s.data.toList
    have HEA := Lib.hid (split_each 10 s.data.toList)
    have hsl : s.data.toList.length = s.size := rfl
    rw [hsl] at hlen HEA
    have HL : Hid (∀ x ∈ splitB 10 s.data.toList, x.length ≤ 4000) := Lib.hid (fun x hx => by have := HEA.out x hx; omega)
    have HFEW : Hid (Few 5000 (readP (splitB 10 s.data.toList))) := Lib.hid (by
      have h1 := readP_few (splitB 10 s.data.toList) 5000
      rwa [List.take_of_length_le (by omega)] at h1)
    have HFIT : Hid (Fit 4000 (readP (splitB 10 s.data.toList))) := Lib.hid (by
      have h1 := readP_fit HL.out 5000
      rwa [List.take_of_length_le (by omega)] at h1)
    have HHAS := Lib.hid (fit_has HFIT.out HFEW.out (by omega) (by omega))
    have HS1 : Hid (okL (readP (splitB 10 s.data.toList)) = true → fmtL (readP (splitB 10 s.data.toList)) = s.data.toList → parseL s.data.toList = some (readP (splitB 10 s.data.toList))) := Lib.hid (fun h1 h2 => lib_some (by rw [hsl]; exact hbig) h1 h2)
    have HS2 : Hid ((okL (readP (splitB 10 s.data.toList)) = true → fmtL (readP (splitB 10 s.data.toList)) ≠ s.data.toList) → parseL s.data.toList = none) := Lib.hid (fun h => lib_none h)
    clear hsl HEA
    obtain ⟨L, hL⟩ : ∃ L, readP (splitB 10 s.data.toList) = L := ⟨_, rfl⟩
    rw [hL] at HS1 HS2 HFEW HFIT HHAS
    have HLL := Lib.hid hL
    obtain ⟨v, hv⟩ : ∃ v, okL L = v := ⟨_, rfl⟩
    have HVV := Lib.hid hv
    have HIL : Hid (isLib (L.map datS) = v) := Lib.hid ((isLib_dat L).trans hv)
    clear hL hv
    go_enter Tryz.func10, Tryz.ntmps10
    go_wp2_with fail
    refine (implSplit s 10 _ (by omega) (by decide)).mono ?_
    rintro e w1 ⟨A1, n1, c1, rfl, hW1, hb1⟩
    have HW1 := Lib.hid hW1
    have hn1 : n1 ≤ 5000 := by rw [← hW1.1]; omega
    have HB1 := Lib.hid hb1
    clear hb1 hW1
    go_wp2_with fail
    refine (implRL _ A1 n1 c1 _ HW1.out hn1 HL.out (HV.out.below HB1.out)).mono ?_
    rintro e w2 ⟨A2, n2, c2, rfl, hO⟩
    rw [HLL.out] at hO
    have HO := Lib.hid (hO.own HB1.out)
    have hn2 : n2 ≤ 5000 := by rw [← hO.1.count]; exact HFEW.out.1
    clear hO
    go_wp2_with fail
    refine (implLib (L.map datS) A2 n2 c2 _ HO.out.1.lies HHAS.out (by omega)).mono ?_
    rintro e w3 ⟨rfl, hb3⟩
    rw [HIL.out]
    replace HO := Lib.hid (HO.out.below hb3)
    clear hb3
    cases v with
    | false =>
      have HN := Lib.hid (HS2.out (fun h => by rw [HVV.out] at h; cases h))
      go_wp2_with fail
      go_ret2
      exact GivesPL.none_ HN.out (HO.out.2.alloc HO.out.2.size _)
    | true =>
      go_wp2_with fail
      refine (implFrmL L A2 n2 c2 _ HO.out.1.lies HHAS.out (by omega) (HV.out.below HO.out.2).pow).mono ?_
      rintro e w4 ⟨rfl, hb4⟩
      replace HO := Lib.hid (HO.out.below hb4)
      clear hb4
      by_cases he : fmtL L = s.data.toList
      · have HN := Lib.hid (HS1.out HVV.out he)
        have hes : strB (fmtL L) = s := by rw [he]; rfl
        rw [hes]
        have hq1 : (s.toList != s.toList) = false := by simp
        clear he hes
        go_wp2_with fail
        go_ret2
        exact GivesPL.some_ HN.out HO.out
      · have HN := Lib.hid (HS2.out (fun _ => he))
        have h1 := str_ne (fmtL_ne he)
        have h2 := str_ne' (fmtL_ne he)
        have h3 : ((strB (fmtL L)).toList != s.toList) = true := by rw [bne, h1]; rfl
        generalize strB (fmtL L) = t at *
        clear he
        go_wp2_with fail
        go_ret2
        exact GivesPL.none_ HN.out (HO.out.2.alloc HO.out.2.size _)
  · have HN : Hid (parseL s.data.toList = none) := Lib.hid (lib_long (by show 4000 < s.size; omega))
    go_enter Tryz.func10, Tryz.ntmps10
    go_wp2_with fail
    go_ret2
    exact GivesPL.none_ HN.out ((Below.refl _ _).alloc (Nat.le_refl _) _)
end Go.Proofs.YthgcodbcafpmhaaGreatDoor
