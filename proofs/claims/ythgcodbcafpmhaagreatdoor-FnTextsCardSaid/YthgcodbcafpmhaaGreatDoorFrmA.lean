/- The reference's FormatScript and FormatLibrary.
   The program's FormatScript and FormatLibrary. -/
import Derived.Test.YthgcodbcafpmhaaGreatDoorLibV
import Derived.Test.YthgcodbcafpmhaaGreatDoorFmtA
import Derived.Test.YthgcodbcafpmhaaGreatDoorSpecSA
import Derived.Test.YthgcodbcafpmhaaGreatDoorPrsA
import Derived.Test.YthgcodbcafpmhaaGreatDoorShelfJ
import Derived.Test.YthgcodbcafpmhaaGreatDoorDisA
namespace Go.Proofs.YthgcodbcafpmhaaGreatDoor
open Go.RowKit
set_option linter.unusedVariables false
set_option linter.unusedSimpArgs false
/-- One method of a script in memory. -/
theorem scr_elem {w : World} {ms : List Meth} {A : Option Addr} {n c i : Nat} (h : Lies w (.l (ms.map datM)) [.slice A n c]) (hi : i < n) :
    ∃ b off m A1 n1 c1, A = some ⟨b, off, none⟩ ∧ b < w.heap.size ∧ ms[i]? = some m ∧ w.cell? ⟨b, off + i * 2, none⟩ = some (.string m.name) ∧ w.cell? ⟨b, off + i * 2 + 1, none⟩ = some (.slice A1 n1 c1) ∧ Lies w (.l (m.code.map datI)) [.slice A1 n1 c1] := by
  obtain ⟨b, off, d, xs, rfl, hbw, hz, hl, hlen, hc⟩ := h.elem (k := 2) (fun x hx => by obtain ⟨m, -, rfl⟩ := List.mem_map.1 hx; rfl) hi
  rw [List.getElem?_map, Option.map_eq_some_iff] at hz
  obtain ⟨m, hm, rfl⟩ := hz
  rw [datM, Lies] at hl
  simp only [LiesAll] at hl
  obtain ⟨e0, q0, rfl, h0, e1, q1, rfl, h1, rfl⟩ := hl
  rw [Lies] at h0
  subst h0
  have h1' := h1
  rw [Lies] at h1
  obtain ⟨A1, n1, c1, rfl, -⟩ := h1
  exact ⟨b, off, m, A1, n1, c1, rfl, hbw, hm, hc 0 _ rfl, hc 1 _ rfl, h1'⟩
/-- One instruction of a method in memory. -/
theorem ins_elem {w : World} {L : List I} {A : Option Addr} {n c i : Nat} (h : Lies w (.l (L.map datI)) [.slice A n c]) (hi : i < n) :
    ∃ b off x, A = some ⟨b, off, none⟩ ∧ b < w.heap.size ∧ L[i]? = some x ∧ w.cell? ⟨b, off + i * 6, none⟩ = some (.int .i64 x.op) ∧ w.cell? ⟨b, off + i * 6 + 1, none⟩ = some (.int .i64 x.a) ∧ w.cell? ⟨b, off + i * 6 + 2, none⟩ = some (.int .i64 x.b) ∧
      w.cell? ⟨b, off + i * 6 + 3, none⟩ = some (.int .i64 x.c) ∧ w.cell? ⟨b, off + i * 6 + 4, none⟩ = some (.int .i64 x.d) ∧ w.cell? ⟨b, off + i * 6 + 5, none⟩ = some (.string x.name) := by
  obtain ⟨b, off, d, xs, rfl, hbw, hz, hl, hlen, hc⟩ := h.elem (k := 6) (fun x hx => by obtain ⟨m, -, rfl⟩ := List.mem_map.1 hx; rfl) hi
  rw [List.getElem?_map, Option.map_eq_some_iff] at hz
  obtain ⟨x, hx, rfl⟩ := hz
  rw [datI] at hl
  simp only [Lies, LiesAll] at hl
  obtain ⟨e0, q0, rfl, rfl, e1, q1, rfl, rfl, e2, q2, rfl, rfl, e3, q3, rfl, rfl, e4, q4, rfl, rfl, e5, q5, rfl, rfl, rfl⟩ := hl
  exact ⟨b, off, x, rfl, hbw, hx, hc 0 _ rfl, hc 1 _ rfl, hc 2 _ rfl, hc 3 _ rfl, hc 4 _ rfl, hc 5 _ rfl⟩
/-- One script of a library in memory. -/
theorem lib_elem {w : World} {L : List Scr} {A : Option Addr} {n c i : Nat} (h : Lies w (.l (L.map datS)) [.slice A n c]) (hi : i < n) :
    ∃ b off s A1 n1 c1, A = some ⟨b, off, none⟩ ∧ b < w.heap.size ∧ L[i]? = some s ∧ w.cell? ⟨b, off + i * 2, none⟩ = some (.string s.name) ∧ w.cell? ⟨b, off + i * 2 + 1, none⟩ = some (.slice A1 n1 c1) ∧ Lies w (.l (s.ms.map datM)) [.slice A1 n1 c1] := by
  obtain ⟨b, off, d, xs, rfl, hbw, hz, hl, hlen, hc⟩ := h.elem (k := 2) (fun x hx => by obtain ⟨m, -, rfl⟩ := List.mem_map.1 hx; rfl) hi
  rw [List.getElem?_map, Option.map_eq_some_iff] at hz
  obtain ⟨s, hs, rfl⟩ := hz
  rw [datS, Lies] at hl
  simp only [LiesAll] at hl
  obtain ⟨e0, q0, rfl, h0, e1, q1, rfl, h1, rfl⟩ := hl
  rw [Lies] at h0
  subst h0
  have h1' := h1
  rw [Lies] at h1
  obtain ⟨A1, n1, c1, rfl, -⟩ := h1
  exact ⟨b, off, s, A1, n1, c1, rfl, hbw, hs, hc 0 _ rfl, hc 1 _ rfl, h1'⟩
theorem isScr_ok (s : Scr) : isScr (.r [.s s.name, .l (s.ms.map datM)]) = okS s := isScr_dat s
set_option maxRecDepth 100000 in
set_option maxHeartbeats 8000000 in
theorem specFrm (s : Scr) (A : Option Addr) (n c : Nat) (w : World) (h : Lies w (.l (s.ms.map datM)) [.slice A n c]) (ht : ∀ x ∈ s.ms.map datM, Has tyMethod x) (hq : (Dat.r [.s s.name, .l (s.ms.map datM)]).bulk ≤ 1099511627776) :
    Calls Tryz.prog 21 #[.agg #[.string s.name, .slice A n c]] w (GivesS (strB (fmtS s)) w) := by
  have H := Lib.hid h
  have HT := Lib.hid ht
  have HQ := Lib.hid hq
  have HC : Hid (s.ms.length = n) := Lib.hid (by have := h.count; rwa [List.length_map] at this)
  have X := Lib.hid (show StX w s.name A n c (w.alloc (.cells #[.string s.name, .slice A n c] 44)) from ⟨Box.new w #[.string s.name, .slice A n c] _, (Below.refl _ _).alloc (Nat.le_refl _) _⟩)
  obtain ⟨v, hv⟩ : ∃ v, okS s = v := ⟨_, rfl⟩
  have HV := Lib.hid hv
  have HVV : Hid (isScr (.r [.s s.name, .l (s.ms.map datM)]) = v) := Lib.hid ((isScr_ok s).trans hv)
  clear h ht hq hv
  cases v with
  | false =>
    have HN := Lib.hid (fmtS_no HV.out)
    go_enter Tryz.func21, Tryz.ntmps21
    go_wp2_with fail
    refine (specScr s.name _ A n c _ (H.out.below X.out.2) HT.out HQ.out).mono ?_
    rintro e w1 ⟨rfl, hb⟩
    rw [HVV.out]
    replace X := Lib.hid (X.out.below hb)
    clear hb
    go_wp2_with fail
    go_ret
    exact GivesS.ret HN.out X.out.2
  | true =>
    obtain ⟨hnm, hms, hmm⟩ := okS_parts HV.out
    have hnm6 : s.name.size ≤ 6 := name_short hnm
    have HM := Lib.hid hmm
    have hn4 : n ≤ 4 := by rw [← HC.out]; exact hms
    have HL := Lib.hid (str_script s.name)
    have hsz1 : (⟨#[115, 99, 114, 105, 112, 116, 32]⟩ : ByteArray).size ≤ 7 := Nat.le_refl _
    have hsz2 : (⟨#[10]⟩ : ByteArray).size ≤ 1 := Nat.le_refl _
    have hsz3 : (⟨#[109, 101, 116, 104, 111, 100, 32]⟩ : ByteArray).size ≤ 7 := Nat.le_refl _
    clear hnm hmm
    go_enter Tryz.func21, Tryz.ntmps21
    go_wp2_with fail
    refine (specScr s.name _ A n c _ (H.out.below X.out.2) HT.out HQ.out).mono ?_
    rintro e w1 ⟨rfl, hb⟩
    rw [HVV.out]
    replace X := Lib.hid (X.out.below hb)
    obtain ⟨k0, k1⟩ := X.out.cells
    clear hb
    go_wp2_with fail
    go_loopw [3, 4, 5] (fun tv iv kv wr => ∃ i : Nat, i ≤ n ∧ iv = .int .i64 i ∧ tv = .string (strB (endL (pre s i))) ∧ StX w s.name A n c wr) (fun _ iv _ _ => n - (intOf iv).toNat)
    case atStart => exact ⟨0, Nat.zero_le _, rfl, by rw [pre_zero]; exact congrArg Value.string HL.out, X.out⟩
    case round =>
      obtain ⟨i, hin, rfl, rfl, hX⟩ := hrel
      clear k0 k1 X HL
      have X := Lib.hid hX
      clear hX
      obtain ⟨k0, k1⟩ := X.out.cells
      have hts : (strB (endL (pre s i))).size ≤ 5082 := pre_size HV.out i
      by_cases hlt : i < n
      · obtain ⟨b, off, m, A1, n1, c1, rfl, hbw, hm, hc0, hc1, hl1⟩ := scr_elem H.out hlt
        have hmem := List.mem_of_getElem? hm
        have hm6 : m.name.size ≤ 6 := name_short (HM.out m hmem).1
        have hcl := (HM.out m hmem).2
        have HC1 : Hid (m.code.length = n1) := Lib.hid (by have := hl1.count; rwa [List.length_map] at this)
        have hn12 : n1 ≤ 12 := by rw [← HC1.out]; exact hcl
        have HMS := Lib.hid hm
        have HMM := Lib.hid hmem
        have HL1 := Lib.hid hl1
        have HK0 := Lib.hid hc0
        have HK1 := Lib.hid hc1
        have r0 := (X.out.2.cell (p := ⟨b, off + i * 2, none⟩) hbw).trans HK0.out
        have r1 := (X.out.2.cell (p := ⟨b, off + i * 2 + 1, none⟩) hbw).trans HK1.out
        have HS := Lib.hid (str_method s i m)
        have hi0 : (0 : Int) ≤ i := by omega
        have hi1 : (i : Int) < n := by omega
        clear hm hmem hc0 hc1 hl1 hcl
        go_wp2_with fail
        go_loopw [3, 5] (fun tv kv wq => ∃ k : Nat, k ≤ n1 ∧ kv = .int .i64 k ∧ tv = .string (strB (endL (preM s i m k))) ∧ StX w s.name (some ⟨b, off, none⟩) n c wq) (fun _ kv _ => n1 - (intOf kv).toNat)
        case atStart => exact ⟨0, Nat.zero_le _, rfl, congrArg Value.string HS.out, X.out⟩
        case round =>
          obtain ⟨k, hkn, rfl, rfl, hX2⟩ := hrel
          clear k0 k1 r0 r1 HS
          have X2 := Lib.hid hX2
          clear hX2
          obtain ⟨k0, k1⟩ := X2.out.cells
          have r0 := (X2.out.2.cell (p := ⟨b, off + i * 2, none⟩) hbw).trans HK0.out
          have r1 := (X2.out.2.cell (p := ⟨b, off + i * 2 + 1, none⟩) hbw).trans HK1.out
          have hts2 : (strB (endL (preM s i m k))).size ≤ 5082 := preM_size HV.out i k HMM.out
          by_cases hkl : k < n1
          · obtain ⟨b2, off2, x, rfl, hbw2, hx, x0, x1, x2, x3, x4, x5⟩ := ins_elem (HL1.out.below X2.out.2) hkl
            have HS2 := Lib.hid (str_instr (s := s) (i := i) hx)
            have hfs : (⟨(fmtI x).toArray⟩ : ByteArray).size ≤ 76 := fmtI_short x
            have hk0 : (0 : Int) ≤ k := by omega
            have hk1 : (k : Int) < n1 := by omega
            have HXN : Hid (x.name.size ≤ 140737488351232) := Lib.hid (by have := isI_name (okS_code HV.out HMM.out (List.mem_of_getElem? hx)); have e : (nameW x.name).length = x.name.size := rfl; omega)
            clear hx
            go_wp2_with fail
            refine (specFmt x _ HXN.out).mono ?_
            rintro e w3 ⟨rfl, hb⟩
            have X3 := Lib.hid (X2.out.below hb)
            generalize (⟨(fmtI x).toArray⟩ : ByteArray) = f at *
            clear hb
            go_wp2_with fail
            go_roundw
            case rel => exact ⟨k + 1, by omega, by go_num, congrArg Value.string HS2.out, X3.out⟩
            case measure => simp [intOf]; omega
          · obtain rfl : k = n1 := by omega
            have HE := Lib.hid (pre_next HMS.out (k := k) (Nat.le_of_eq HC1.out))
            go_wp2_with fail
            go_roundw
            case rel => exact ⟨i + 1, by omega, by go_num, by rw [HE.out], X2.out⟩
            case measure => simp [intOf]; omega
      · obtain rfl : i = n := by omega
        have HE : Hid (strB (endL (pre s i)) = strB (fmtS s)) := Lib.hid (by rw [← HC.out]; exact fmtS_yes HV.out)
        go_wp2_with fail
        go_ret
        exact GivesS.ret HE.out X.out.2
theorem bulk_map {L : List Scr} {i : Nat} {s : Scr} (h : L[i]? = some s) (hq : (Dat.l (L.map datS)).bulk ≤ 1099511627776) : (Dat.r [.s s.name, .l (s.ms.map datM)]).bulk ≤ 1099511627776 := by
  have h1 := bulk_mem (ds := L.map datS) (d := datS s) (List.mem_map_of_mem (List.mem_of_getElem? h))
  have e : (datS s).bulk = (Dat.r [.s s.name, .l (s.ms.map datM)]).bulk := rfl
  rw [Dat.bulk] at hq
  omega
theorem has_scr {L : List Scr} (h : ∀ x ∈ L.map datS, Has tyScript x) {i : Nat} {s : Scr} (hs : L[i]? = some s) : ∀ x ∈ s.ms.map datM, Has tyMethod x := by
  have h1 := h (datS s) (List.mem_map_of_mem (List.mem_of_getElem? hs))
  simp only [tyScript, Has, HasAll, datS] at h1
  obtain ⟨ds, e, d0, _, rfl, ⟨f0, rfl, -⟩, d1, _, rfl, ⟨L1, rfl, -, ht1⟩, rfl⟩ := h1
  simp only [Dat.r.injEq, List.cons.injEq, Dat.s.injEq, Dat.l.injEq, and_true] at e
  rw [e.2]
  exact ht1
set_option maxRecDepth 100000 in
set_option maxHeartbeats 8000000 in
theorem specFrmL (L : List Scr) (A : Option Addr) (n c : Nat) (w : World) (h : Lies w (.l (L.map datS)) [.slice A n c]) (ht : ∀ x ∈ L.map datS, Has tyScript x) (hq : (Dat.l (L.map datS)).bulk ≤ 1099511627776) :
    Calls Tryz.prog 26 #[.slice A n c] w (GivesS (strB (fmtL L)) w) := by
  have H := Lib.hid h
  have HT := Lib.hid ht
  have HQ := Lib.hid hq
  have HC : Hid (L.length = n) := Lib.hid (by have := h.count; rwa [List.length_map] at this)
  obtain ⟨v, hv⟩ : ∃ v, okL L = v := ⟨_, rfl⟩
  have HV := Lib.hid hv
  have HVV : Hid (isLib (L.map datS) = v) := Lib.hid ((isLib_dat L).trans hv)
  clear h ht hq hv
  cases v with
  | false =>
    have HN := Lib.hid (fmtL_no HV.out)
    go_enter Tryz.func26, Tryz.ntmps26
    go_wp2_with fail
    refine (specLib _ A n c _ H.out HT.out HQ.out).mono ?_
    rintro e w1 ⟨rfl, hb⟩
    rw [HVV.out]
    have X := Lib.hid hb
    clear hb
    go_wp2_with fail
    go_ret
    exact GivesS.ret HN.out X.out
  | true =>
    have hn6 : n ≤ 6 := by rw [← HC.out]; exact okL_few HV.out
    go_enter Tryz.func26, Tryz.ntmps26
    go_wp2_with fail
    refine (specLib _ A n c _ H.out HT.out HQ.out).mono ?_
    rintro e w1 ⟨rfl, hb⟩
    rw [HVV.out]
    have X := Lib.hid hb
    clear hb
    go_wp2_with fail
    go_loopw [3, 4] (fun tv iv wr => ∃ i : Nat, i ≤ n ∧ iv = .int .i64 i ∧ tv = .string (strB (preL L i)) ∧ Below w.heap.size w wr) (fun _ iv _ => n - (intOf iv).toNat)
    case atStart => exact ⟨0, Nat.zero_le _, rfl, by rw [preL_zero]; rfl, X.out⟩
    case round =>
      obtain ⟨i, hin, rfl, rfl, hX⟩ := hrel
      clear X
      have X := Lib.hid hX
      clear hX
      have hts : (strB (preL L i)).size ≤ 30492 := preL_size HV.out i
      by_cases hlt : i < n
      · obtain ⟨b, off, s, A1, n1, c1, rfl, hbw, hs, hc0, hc1, hl1⟩ := lib_elem H.out hlt
        have HL1 := Lib.hid hl1
        have HS := Lib.hid (preL_next hs)
        have HQ1 := Lib.hid (bulk_map hs HQ.out)
        have HT1 := Lib.hid (has_scr HT.out hs)
        have HK0 := Lib.hid hc0
        have HK1 := Lib.hid hc1
        have r0 := (X.out.cell (p := ⟨b, off + i * 2, none⟩) hbw).trans HK0.out
        have r1 := (X.out.cell (p := ⟨b, off + i * 2 + 1, none⟩) hbw).trans HK1.out
        have hfs := fmtS_short s
        have hi0 : (0 : Int) ≤ i := by omega
        have hi1 : (i : Int) < n := by omega
        clear hs hc0 hc1 hl1
        go_wp2_with fail
        refine (specFrm s A1 n1 c1 _ (HL1.out.below X.out) HT1.out HQ1.out).mono ?_
        rintro e w3 ⟨rfl, hb⟩
        have X3 := Lib.hid (X.out.trans (hb.mono X.out.size))
        clear hb
        go_wp2_with fail
        go_roundw
        case rel => exact ⟨i + 1, by omega, by go_num, congrArg Value.string HS.out, X3.out⟩
        case measure => simp [intOf]; omega
      · obtain rfl : i = n := by omega
        have HE : Hid (strB (preL L i) = strB (fmtL L)) := Lib.hid (preL_all (Nat.le_of_eq HC.out) HV.out)
        go_wp2_with fail
        go_ret
        exact GivesS.ret HE.out X.out
end Go.Proofs.YthgcodbcafpmhaaGreatDoor
namespace Go.Proofs.YthgcodbcafpmhaaGreatDoor
open Go.RowKit
set_option linter.unusedVariables false
set_option linter.unusedSimpArgs false
theorem GrowP.lit1 {α : Type} {P : Elt α} {E : TypeId} {lo : Nat} {w : World} {x : α} {cs : Array Value} {B : Nat → Prop} (hlo : lo ≤ w.heap.size) (hB : B w.heap.size) (hx : ∀ w, P.own w x cs.toList (fun _ => False)) : GrowP P E lo (w.alloc (.cells cs E)) (some ⟨w.heap.size, 0, none⟩) 1 1 [x] B := by
  have hl : cs.size = 1 * P.k := by have := Elt.len (hx w); rw [Array.length_toList] at this; omega
  refine ⟨cs.toList, (fun _ => False), World.ownsRow_lit w cs 1 hlo (by decide) hl, ?_, rfl, fun b hb => hb.elim, fun a e => ?_⟩
  · exact ⟨cs.toList, [], (fun _ => False), (fun _ => False), (List.append_nil _).symm, fun b hb => hb.elim, fun b hb => hb.elim, fun b hb => hb.elim, hx _, rfl⟩
  · obtain rfl := Option.some.inj e
    exact ⟨hB, fun h => h⟩
theorem Rd.lit1At (w : World) (v : Value) (E : TypeId) (k : Nat) (hk : w.heap.size = k) : Rd (w.alloc (.cells #[v] E)) (w.alloc (.cells #[v] E)).heap.size (some ⟨k, 0, none⟩) [v] := by
  subst hk
  exact Rd.lit1 w v E
theorem map_lists (ls : List (List UInt8)) : (ls.map strB).map (·.data.toList) = ls := by
  rw [List.map_map]
  conv => rhs; rw [← List.map_id ls]
  rfl
theorem joinLines {E : TypeId} {lo : Nat} (Al : Option Addr) (nl cl : Nat) (ls : List (List UInt8)) (B : Nat → Prop) (w : World) (h : GrowP strE E lo w Al nl cl (ls.map strB) B) (hn : nl ≤ 4096) (hlen : (endL ls).length ≤ 140737488355328) (hne : ls ≠ []) :
    Calls Tryz.prog 57 #[.slice Al nl cl, .string ⟨#[10]⟩] w (GivesS (strB (Lib.join ls [10])) w) := by
  have hW := h.words
  have hcap := h.cap
  have hnl : nl = (ls.map strB).length := by rw [List.length_map]; exact hW.1.symm
  have hje := join_end hne
  have hjl : (Lib.join ls [10]).length ≤ 140737488355328 := by
    have h1 := congrArg List.length hje
    rw [List.length_append] at h1
    omega
  obtain ⟨b, off, x, rfl, hb, -, -⟩ := hW.at_ (i := 0) (by rw [← hW.1]; exact List.length_pos_iff.2 hne)
  have hcell : ∀ (j : Nat) (y : ByteArray), (ls.map strB)[j]? = some y → w.cell? ⟨b, off + j, none⟩ = some (.string y) := fun j y hy => by
    rcases hW.2 with h0 | ⟨b', off', e, -, hc⟩
    · rw [List.map_eq_nil_iff] at h0
      exact absurd h0 hne
    · have e1 := Option.some.inj e
      injection e1 with e1 e2
      subst e1 e2
      refine hc j _ ?_
      rw [List.getElem?_map, Option.map_eq_some_iff] at hy
      obtain ⟨z, hz, rfl⟩ := hy
      rw [List.getElem?_map, hz]
      rfl
  have hJ := Tryz.strings_Join b off cl (ls.map strB) ⟨#[10]⟩ w hcell hb (by rw [← hnl]; omega) (by rw [← hnl]; exact hcap) (by rw [map_lists]; exact hjl)
  rw [map_lists, ← hnl] at hJ
  exact hJ.mono fun e w' ⟨he, hb⟩ => ⟨he, hb⟩
/-- The script's box and the lines so far. -/
def OtR (W : World) (nm : ByteArray) (A : Option Addr) (n c : Nat) (Al : Option Addr) (nl cl : Nat) (ls : List (List UInt8)) (wr : World) : Prop :=
  StX W nm A n c wr ∧ ∃ B, GrowP strE 9 W.heap.size wr Al nl cl (ls.map strB) B ∧ ∀ b, B b → W.heap.size < b ∧ b < wr.heap.size
/-- And a method's box. -/
def LnR (W : World) (nm : ByteArray) (A : Option Addr) (n c g : Nat) (mn : ByteArray) (A1 : Option Addr) (n1 c1 : Nat) (Al : Option Addr) (nl cl : Nat) (ls : List (List UInt8)) (B : Nat → Prop) (wr : World) : Prop :=
  StX W nm A n c wr ∧ Box g [.string mn, .slice A1 n1 c1] wr ∧ GrowP strE 9 W.heap.size wr Al nl cl (ls.map strB) B ∧ ∀ b, B b → W.heap.size < b ∧ b < wr.heap.size ∧ b ≠ g
section
variable {W wr w' : World} {nm mn : ByteArray} {A A1 Al : Option Addr} {n c g n1 c1 nl cl : Nat} {ls : List (List UInt8)} {B : Nat → Prop}
theorem LnR.below (h : LnR W nm A n c g mn A1 n1 c1 Al nl cl ls B wr) (hb : Below wr.heap.size wr w') : LnR W nm A n c g mn A1 n1 c1 Al nl cl ls B w' :=
  ⟨h.1.below hb, h.2.1.below hb, h.2.2.1.below hb, fun b hB => ⟨(h.2.2.2 b hB).1, Nat.lt_of_lt_of_le (h.2.2.2 b hB).2.1 hb.size, (h.2.2.2 b hB).2.2⟩⟩
theorem LnR.grow (h : LnR W nm A n c g mn A1 n1 c1 Al nl cl ls B wr) : GrowP strE 9 W.heap.size wr Al nl cl (ls.map strB) B := h.2.2.1
theorem LnR.ot (h : LnR W nm A n c g mn A1 n1 c1 Al nl cl ls B wr) : OtR W nm A n c Al nl cl ls wr := ⟨h.1, B, h.2.2.1, fun b hB => ⟨(h.2.2.2 b hB).1, (h.2.2.2 b hB).2.1⟩⟩
theorem LnR.count (h : LnR W nm A n c g mn A1 n1 c1 Al nl cl ls B wr) : ls.length = nl := by have := h.2.2.1.count; rwa [List.length_map] at this
theorem OtR.count (h : OtR W nm A n c Al nl cl ls wr) : ls.length = nl := by obtain ⟨-, B, h1, -⟩ := h; have := h1.count; rwa [List.length_map] at this
theorem OtR.low (h : OtR W nm A n c Al nl cl ls wr) : Below W.heap.size W wr := h.1.2
theorem LnR.low (h : LnR W nm A n c g mn A1 n1 c1 Al nl cl ls B wr) : Below W.heap.size W wr := h.1.2
theorem OtR.ln (h : OtR W nm A n c Al nl cl ls wr) (mn : ByteArray) (A1 : Option Addr) (n1 c1 : Nat) (T : TypeId) : ∃ B, LnR W nm A n c wr.heap.size mn A1 n1 c1 Al nl cl ls B (wr.alloc (.cells #[.string mn, .slice A1 n1 c1] T)) := by
  obtain ⟨h1, B, h2, h3⟩ := h
  have hb : Below wr.heap.size wr (wr.alloc (.cells #[.string mn, .slice A1 n1 c1] T)) := (Below.refl _ _).alloc (Nat.le_refl _) _
  exact ⟨B, h1.below hb, Box.new wr #[.string mn, .slice A1 n1 c1] T, h2.below hb, fun b hB => ⟨(h3 b hB).1, Nat.lt_of_lt_of_le (h3 b hB).2 hb.size, by have := (h3 b hB).2; omega⟩⟩
theorem LnR.next {o w3 : World} {A3 : Option Addr} {c3 : Nat} {x : ByteArray} {p : List UInt8} (h : LnR W nm A n c g mn A1 n1 c1 Al nl cl ls B wr) (hx : x = strB p) (ho : Below wr.heap.size wr o)
    (hG : GrowP strE 9 W.heap.size w3 A3 (nl + 1) c3 (ls.map strB ++ [x]) (fun b => B b ∨ (o.heap.size ≤ b ∧ b < w3.heap.size))) (ht : Touch B o w3) : LnR W nm A n c g mn A1 n1 c1 A3 (nl + 1) c3 (ls ++ [p]) (fun b => B b ∨ (o.heap.size ≤ b ∧ b < w3.heap.size)) w3 := by
  subst hx
  have h' := h.below ho
  have hs := ht.size
  have hg := h'.2.1.1
  have hw := h'.1.1.1
  refine ⟨⟨⟨Nat.lt_of_lt_of_le hw hs, fun i v hv => ?_⟩, h'.1.2.trans (ht.below (fun b hb => Nat.le_of_lt (h'.2.2.2 b hb).1) h'.1.2.size)⟩, ⟨Nat.lt_of_lt_of_le hg hs, fun i v hv => ?_⟩, by rw [List.map_append]; exact hG, fun b hb => ?_⟩
  · exact (World.cell?_of_block (w := o) (a := ⟨W.heap.size, i, none⟩) (ht.block W.heap.size hw (fun hB => absurd (h'.2.2.2 _ hB).1 (Nat.lt_irrefl _)))).trans (h'.1.1.2 i v hv)
  · exact (World.cell?_of_block (w := o) (a := ⟨g, i, none⟩) (ht.block g hg (fun hB => (h'.2.2.2 _ hB).2.2 rfl))).trans (h'.2.1.2 i v hv)
  · rcases hb with hb | hb
    · exact ⟨(h'.2.2.2 b hb).1, Nat.lt_of_lt_of_le (h'.2.2.2 b hb).2.1 hs, (h'.2.2.2 b hb).2.2⟩
    · exact ⟨by omega, hb.2, by omega⟩
end
set_option maxRecDepth 100000 in
set_option maxHeartbeats 16000000 in
theorem implFrm (s : Scr) (A : Option Addr) (n c : Nat) (w : World) (h : Lies w (.l (s.ms.map datM)) [.slice A n c]) (ht : ∀ x ∈ s.ms.map datM, Has tyMethod x) (hn0 : n ≤ 9223372036854775807) (hP : Pow10 w) :
    Calls Tryz.prog 23 #[.agg #[.string s.name, .slice A n c]] w (GivesS (strB (fmtS s)) w) := by
  obtain ⟨i0, hi, hz0, hz1, hz2⟩ := info_parts infoStr
  have H := Lib.hid h
  have HT := Lib.hid ht
  have HP := Lib.hid hP
  have HC : Hid (s.ms.length = n) := Lib.hid (by have := h.count; rwa [List.length_map] at this)
  have X := Lib.hid (show StX w s.name A n c (w.alloc (.cells #[.string s.name, .slice A n c] 44)) from ⟨Box.new w #[.string s.name, .slice A n c] _, (Below.refl _ _).alloc (Nat.le_refl _) _⟩)
  obtain ⟨v, hv⟩ : ∃ v, okS s = v := ⟨_, rfl⟩
  have HV := Lib.hid hv
  have HVV : Hid (isScr (.r [.s s.name, .l (s.ms.map datM)]) = v) := Lib.hid ((isScr_ok s).trans hv)
  clear h ht hP hv
  cases v with
  | false =>
    have HN := Lib.hid (fmtS_no HV.out)
    go_enter Tryz.func23, Tryz.ntmps23
    go_wp2_with fail
    refine (implScr s.name _ A n c _ (H.out.below X.out.2) HT.out hn0).mono ?_
    rintro e w1 ⟨rfl, hb⟩
    rw [HVV.out]
    replace X := Lib.hid (X.out.below hb)
    clear hb
    go_wp2_with fail
    go_ret
    exact GivesS.ret HN.out X.out.2
  | true =>
    obtain ⟨hnm, hms, hmm⟩ := okS_parts HV.out
    have hnm6 : s.name.size ≤ 6 := name_short hnm
    have HM := Lib.hid hmm
    have hn4 : n ≤ 4 := by rw [← HC.out]; exact hms
    have HL := Lib.hid (line_script s.name)
    have hsz1 : (⟨#[115, 99, 114, 105, 112, 116, 32]⟩ : ByteArray).size ≤ 7 := Nat.le_refl _
    have hsz2 : (⟨#[10]⟩ : ByteArray).size ≤ 1 := Nat.le_refl _
    have hsz3 : (⟨#[109, 101, 116, 104, 111, 100, 32]⟩ : ByteArray).size ≤ 7 := Nat.le_refl _
    clear hnm hmm
    go_enter Tryz.func23, Tryz.ntmps23
    go_wp2_with fail
    refine (implScr s.name _ A n c _ (H.out.below X.out.2) HT.out hn0).mono ?_
    rintro e w1 ⟨rfl, hb⟩
    rw [HVV.out]
    replace X := Lib.hid (X.out.below hb)
    obtain ⟨k0, k1⟩ := X.out.cells
    have hww := X.out.1.1
    clear hb
    have R0 : Hid (OtR w s.name A n c (some ⟨w1.heap.size, 0, none⟩) 1 1 (pre s 0) (w1.alloc (.cells #[.string ((⟨#[115, 99, 114, 105, 112, 116, 32]⟩ : ByteArray) ++ s.name)] 9))) := Lib.hid ⟨X.out.below ((Below.refl _ _).alloc (Nat.le_refl _) _), fun b => b = w1.heap.size, by rw [pre_zero]; exact GrowP.lit1 (P := strE) X.out.2.size rfl (fun w => by rw [HL.out]; rfl), fun b hb => by subst hb; exact ⟨hww, by simp⟩⟩
    obtain ⟨j0, j1⟩ := R0.out.1.cells
    go_wp2_with fail
    clear k0 k1 j0 j1 X
    go_loopw [3, 5, 7, 18, 31] (fun lv _ _ iv _ wr => ∃ (i nl cl : Nat) (Al : Option Addr), i ≤ n ∧ iv = .int .i64 i ∧ lv = .slice Al nl cl ∧ OtR w s.name A n c Al nl cl (pre s i) wr) (fun _ _ _ iv _ _ => n - (RowKit.intOf iv).toNat)
    case atStart => exact ⟨0, 1, 1, _, Nat.zero_le _, rfl, rfl, R0.out⟩
    case round =>
      obtain ⟨i, nl, cl, Al, hin, rfl, rfl, hR⟩ := hrel
      have hcnt := hR.count
      have hfew := pre_few HV.out i
      have hnl : nl ≤ 53 := by rw [← hcnt]; exact hfew
      have hlow := hR.low.size
      have HR := Lib.hid hR
      clear hR R0 hcnt hfew
      by_cases hlt : i < n
      · obtain ⟨b, off, m, A1, n1, c1, rfl, hbw, hm, hc0, hc1, hl1⟩ := scr_elem H.out hlt
        have hmem := List.mem_of_getElem? hm
        have hm6 : m.name.size ≤ 6 := name_short (HM.out m hmem).1
        have HC1 : Hid (m.code.length = n1) := Lib.hid (by have := hl1.count; rwa [List.length_map] at this)
        have hn12 : n1 ≤ 12 := by rw [← HC1.out]; exact (HM.out m hmem).2
        have HMS := Lib.hid hm
        have HMM := Lib.hid hmem
        have HL1 := Lib.hid hl1
        have r0 := (HR.out.low.cell (p := ⟨b, off + i * 2, none⟩) hbw).trans hc0
        have r1 := (HR.out.low.cell (p := ⟨b, off + i * 2 + 1, none⟩) hbw).trans hc1
        have hi0 : (0 : Int) ≤ i := by omega
        have hi1 : (i : Int) < n := by omega
        obtain ⟨B, hB⟩ := HR.out.ln m.name A1 n1 c1 81
        have j0 := hB.2.1.2 0 _ rfl
        have j1 := hB.2.1.2 1 _ rfl
        have HB := Lib.hid hB
        clear hm hmem hc0 hc1 hl1 hB HR
        have HLM := Lib.hid (preM_zero s i m)
        go_wp2_with (at_builtin; refine wpList_append_new _ strE rfl _ _ 62 rfl 9 i0 (.string ⟨#[]⟩) 16 Tryz.underlying62 hi hz0 hz1 rfl hz2 w.heap.size Al nl cl ((pre s i).map strB) B rfl (HB.out.grow.below ((Below.refl _ _).alloc (Nat.le_refl _) _)) _ 1 ((⟨#[109, 101, 116, 104, 111, 100, 32]⟩ : ByteArray) ++ m.name) [.string ((⟨#[109, 101, 116, 104, 111, 100, 32]⟩ : ByteArray) ++ m.name)] rfl ?hrd (fun _ => rfl) ?h63 ?hby ?hlo ?_; (case hrd => exact Rd.lit1At _ _ _ _ (by simp)); (case h63 => (unfold maxLen; omega)); (case hby => omega); (case hlo => (simp; omega)); intro A3 c3 w3 hG hT; have HN := Lib.hid (HB.out.next (line_method m.name) ((Below.refl _ _).alloc (Nat.le_refl _) _) hG hT); clear hG hT; have t0 := HN.out.2.1.2 0 _ rfl; have t1 := HN.out.2.1.2 1 _ rfl)
        clear j0 j1 HB r0 r1
        have hnl2 : (preM s i m 0).length = nl + 1 := by have h1 := HN.out.count; rw [← HLM.out] at h1; exact h1
        have HN0 : Hid (LnR w s.name (some ⟨b, off, none⟩) n c wr.heap.size m.name A1 n1 c1 A3 (nl + 1) c3 (preM s i m 0) _ w3) := Lib.hid (HLM.out ▸ HN.out)
        go_loopw [3, 7, 31] (fun lv _ kv wq => ∃ (k nl2 cl2 : Nat) (Al2 : Option Addr) (B2 : Nat → Prop), k ≤ n1 ∧ kv = .int .i64 k ∧ lv = .slice Al2 nl2 cl2 ∧ LnR w s.name (some ⟨b, off, none⟩) n c wr.heap.size m.name A1 n1 c1 Al2 nl2 cl2 (preM s i m k) B2 wq) (fun _ _ kv _ => n1 - (RowKit.intOf kv).toNat)
        case atStart => exact ⟨0, _, _, _, _, Nat.zero_le _, rfl, rfl, HN0.out⟩
        case round =>
          obtain ⟨k, nl2, cl2, Al2, B2, hkn, rfl, rfl, hL⟩ := hrel
          have hcnt := hL.count
          have hfew := preM_few HV.out i k HMM.out
          have hnl3 : nl2 ≤ 66 := by rw [← hcnt]; exact hfew
          have hlow2 := hL.low.size
          have HL2 := Lib.hid hL
          clear hL HN HN0 t0 t1 hcnt hfew hnl2
          by_cases hkl : k < n1
          · obtain ⟨b2, off2, x, rfl, hbw2, hx, x0, x1, x2, x3, x4, x5⟩ := ins_elem (HL1.out.below HL2.out.low) hkl
            have HX := Lib.hid (preM_next (s := s) (i := i) hx)
            have hk0 : (0 : Int) ≤ k := by omega
            have hk1 : (k : Int) < n1 := by omega
            have HB3 := Lib.hid (Box.new wr #[.int .i64 x.op, .int .i64 x.a, .int .i64 x.b, .int .i64 x.c, .int .i64 x.d, .string x.name] 32)
            have HC2 := Lib.hid (HL2.out.below ((Below.refl _ _).alloc (Nat.le_refl _) (.cells #[.int .i64 x.op, .int .i64 x.a, .int .i64 x.b, .int .i64 x.c, .int .i64 x.d, .string x.name] 32)))
            obtain ⟨y0, y1, y2, y3, y4, y5⟩ := And.intro (HB3.out.2 0 _ rfl) (And.intro (HB3.out.2 1 _ rfl) (And.intro (HB3.out.2 2 _ rfl) (And.intro (HB3.out.2 3 _ rfl) (And.intro (HB3.out.2 4 _ rfl) (HB3.out.2 5 _ rfl)))))
            clear hx
            go_wp2_with fail
            refine (implFmt x _ (HP.out.below HC2.out.low)).mono ?_
            rintro e w5 ⟨rfl, hb⟩
            have HD := Lib.hid (HC2.out.below hb)
            have hlow3 := HD.out.low.size
            clear hb x0 x1 x2 x3 x4 x5 y0 y1 y2 y3 y4 y5
            go_wp2_with (at_builtin; refine wpList_append_new _ strE rfl _ _ 62 rfl 9 i0 (.string ⟨#[]⟩) 16 Tryz.underlying62 hi hz0 hz1 rfl hz2 w.heap.size Al2 nl2 cl2 ((preM s i m k).map strB) B2 rfl (HD.out.grow.below ((Below.refl _ _).alloc (Nat.le_refl _) _)) _ 1 ⟨(fmtI x).toArray⟩ [.string ⟨(fmtI x).toArray⟩] rfl ?hrd (fun _ => rfl) ?h63 ?hby ?hlo ?_; (case hrd => exact Rd.lit1At _ _ _ _ (by simp)); (case h63 => (unfold maxLen; omega)); (case hby => omega); (case hlo => (simp; omega)); intro A4 c4 w4 hG hT; have HN2 := Lib.hid (HD.out.next (p := fmtI x) rfl ((Below.refl _ _).alloc (Nat.le_refl _) _) hG hT); clear hG hT)
            go_roundw
            case rel => exact ⟨k + 1, _, _, _, _, by omega, by go_num, rfl, HX.out ▸ HN2.out⟩
            case measure => simp [RowKit.intOf]; omega
          · obtain rfl : k = n1 := by omega
            have HE := Lib.hid (pre_next HMS.out (k := k) (Nat.le_of_eq HC1.out))
            have HO := Lib.hid HL2.out.ot
            go_wp2_with fail
            go_roundw
            case rel => exact ⟨i + 1, _, _, _, by omega, by go_num, rfl, HE.out ▸ HO.out⟩
            case measure => simp [RowKit.intOf]; omega
      · obtain rfl : i = n := by omega
        have HE : Hid (pre s i = linesS s) := Lib.hid (pre_all (Nat.le_of_eq HC.out))
        obtain ⟨hSt, B, hG, hB⟩ := HR.out
        have HG := Lib.hid hG
        have HSt := Lib.hid hSt
        have hsz := pre_size HV.out i
        have hne : pre s i ≠ [] := by simp [pre]
        have hel : (endL (pre s i)).length ≤ 5082 := by have h1 := hsz; show (endL (pre s i)).length ≤ _; have e : (strB (endL (pre s i))).size = (endL (pre s i)).toArray.size := rfl; rw [e, List.size_toArray] at h1; exact h1
        have HF : Hid (strB (Lib.join (pre s i) [10]) ++ (⟨#[10]⟩ : ByteArray) = strB (fmtS s)) := Lib.hid (by
          apply bytes_eq
          have h1 := join_end hne
          rw [fmtS, if_pos HV.out, ← HE.out, ← h1]
          simp [ByteArray.data_append, strB])
        have hjs : (strB (Lib.join (pre s i) [10])).size ≤ 5082 := by
          have h1 := congrArg List.length (join_end hne)
          rw [List.length_append] at h1
          show (Lib.join (pre s i) [10]).toArray.size ≤ _
          rw [List.size_toArray]
          omega
        have HNE := Lib.hid hne
        clear hG hSt hB hne
        go_wp2_with fail
        refine (joinLines Al nl cl (pre s i) B _ HG.out (by omega) (by omega) HNE.out).mono ?_
        rintro e w5 ⟨rfl, hb⟩
        have HB5 := Lib.hid (HSt.out.2.trans (hb.mono HSt.out.2.size))
        clear hb
        generalize strB (Lib.join (pre s i) [10]) = t at *
        go_wp2_with fail
        go_ret
        exact GivesS.ret HF.out HB5.out
set_option maxRecDepth 100000 in
set_option maxHeartbeats 8000000 in
theorem implFrmL (L : List Scr) (A : Option Addr) (n c : Nat) (w : World) (h : Lies w (.l (L.map datS)) [.slice A n c]) (ht : ∀ x ∈ L.map datS, Has tyScript x) (hn0 : n ≤ 9223372036854775807) (hP : Pow10 w) :
    Calls Tryz.prog 9 #[.slice A n c] w (GivesS (strB (fmtL L)) w) := by
  have H := Lib.hid h
  have HT := Lib.hid ht
  have HP := Lib.hid hP
  have HC : Hid (L.length = n) := Lib.hid (by have := h.count; rwa [List.length_map] at this)
  obtain ⟨v, hv⟩ : ∃ v, okL L = v := ⟨_, rfl⟩
  have HV := Lib.hid hv
  have HVV : Hid (isLib (L.map datS) = v) := Lib.hid ((isLib_dat L).trans hv)
  clear h ht hP hv
  cases v with
  | false =>
    have HN := Lib.hid (fmtL_no HV.out)
    go_enter Tryz.func9, Tryz.ntmps9
    go_wp2_with fail
    refine (implLib _ A n c _ H.out HT.out hn0).mono ?_
    rintro e w1 ⟨rfl, hb⟩
    rw [HVV.out]
    have X := Lib.hid hb
    clear hb
    go_wp2_with fail
    go_ret
    exact GivesS.ret HN.out X.out
  | true =>
    have hn6 : n ≤ 6 := by rw [← HC.out]; exact okL_few HV.out
    go_enter Tryz.func9, Tryz.ntmps9
    go_wp2_with fail
    refine (implLib _ A n c _ H.out HT.out hn0).mono ?_
    rintro e w1 ⟨rfl, hb⟩
    rw [HVV.out]
    have X := Lib.hid hb
    clear hb
    go_wp2_with fail
    go_loopw [3, 5, 11] (fun tv _ iv wr => ∃ i : Nat, i ≤ n ∧ iv = .int .i64 i ∧ tv = .string (strB (preL L i)) ∧ Below w.heap.size w wr) (fun _ _ iv _ => n - (RowKit.intOf iv).toNat)
    case atStart => exact ⟨0, Nat.zero_le _, rfl, by rw [preL_zero]; rfl, X.out⟩
    case round =>
      obtain ⟨i, hin, rfl, rfl, hX⟩ := hrel
      clear X
      have X := Lib.hid hX
      clear hX
      have hts : (strB (preL L i)).size ≤ 30492 := preL_size HV.out i
      by_cases hlt : i < n
      · obtain ⟨b, off, s, A1, n1, c1, rfl, hbw, hs, hc0, hc1, hl1⟩ := lib_elem H.out hlt
        have HL1 := Lib.hid hl1
        have HS := Lib.hid (preL_next hs)
        have HT1 := Lib.hid (has_scr HT.out hs)
        have hn1 : n1 ≤ 9223372036854775807 := by
          have h1 := hl1.count
          have h2 := HT.out (datS s) (List.mem_map_of_mem (List.mem_of_getElem? hs))
          simp only [tyScript, Has, HasAll, datS] at h2
          obtain ⟨ds, e, d0, _, rfl, ⟨f0, rfl, -⟩, d1, _, rfl, ⟨L1, rfl, hm1, ht1⟩, rfl⟩ := h2
          simp only [Dat.r.injEq, List.cons.injEq, Dat.s.injEq, Dat.l.injEq, and_true] at e
          rw [← e.2] at hm1
          omega
        have r0 := (X.out.cell (p := ⟨b, off + i * 2, none⟩) hbw).trans hc0
        have r1 := (X.out.cell (p := ⟨b, off + i * 2 + 1, none⟩) hbw).trans hc1
        have hfs := fmtS_short s
        have hi0 : (0 : Int) ≤ i := by omega
        have hi1 : (i : Int) < n := by omega
        have G1 := Lib.hid (Box.new wr #[.string s.name, .slice A1 n1 c1] 44)
        have X2 := Lib.hid (X.out.alloc X.out.size (.cells #[.string s.name, .slice A1 n1 c1] 44))
        have j0 := G1.out.2 0 _ rfl
        have j1 := G1.out.2 1 _ rfl
        clear hs hc0 hc1 hl1
        go_wp2_with fail
        refine (implFrm s A1 n1 c1 _ (HL1.out.below X2.out) HT1.out hn1 (HP.out.below X2.out)).mono ?_
        rintro e w3 ⟨rfl, hb⟩
        have X3 := Lib.hid (X2.out.trans (hb.mono X2.out.size))
        clear hb r0 r1 j0 j1
        go_wp2_with fail
        go_roundw
        case rel => exact ⟨i + 1, by omega, by go_num, congrArg Value.string HS.out, X3.out⟩
        case measure => simp [RowKit.intOf]; omega
      · obtain rfl : i = n := by omega
        have HE : Hid (strB (preL L i) = strB (fmtL L)) := Lib.hid (preL_all (Nat.le_of_eq HC.out) HV.out)
        go_wp2_with fail
        go_ret
        exact GivesS.ret HE.out X.out
/-! ### From data -/
def unI : Dat → I
  | .r [.i a, .i b, .i c, .i d, .i e, .s n] => ⟨a, b, c, d, e, n⟩
  | _ => ⟨0, 0, 0, 0, 0, ⟨#[]⟩⟩
def unM : Dat → Meth
  | .r [.s n, .l L] => ⟨n, L.map unI⟩
  | _ => ⟨⟨#[]⟩, []⟩
def unS : Dat → Scr
  | .r [.s n, .l L] => ⟨n, L.map unM⟩
  | _ => ⟨⟨#[]⟩, []⟩
theorem un_map {α : Type} {f : α → Dat} {g : Dat → α} (h : ∀ x, g (f x) = x) (L : List α) : (L.map f).map g = L := by
  rw [List.map_map]
  conv => rhs; rw [← List.map_id L]
  apply List.map_congr_left
  intro x _
  exact h x
theorem unI_dat (x : I) : unI (datI x) = x := rfl
theorem unM_dat (m : Meth) : unM (datM m) = m := by
  show (⟨m.name, (m.code.map datI).map unI⟩ : Meth) = m
  rw [un_map unI_dat]
theorem unS_dat (s : Scr) : unS (datS s) = s := by
  show (⟨s.name, (s.ms.map datM).map unM⟩ : Scr) = s
  rw [un_map unM_dat]
def fmtSD (f : ByteArray) (L : List Dat) : ByteArray := strB (fmtS ⟨f, L.map unM⟩)
def fmtLD (L : List Dat) : ByteArray := strB (fmtL (L.map unS))
theorem specFrmD (f : ByteArray) (L : List Dat) (A : Option Addr) (n c : Nat) (w : World) (h : Lies w (.l L) [.slice A n c]) (ht : ∀ x ∈ L, Has tyMethod x) (hq : (Dat.r [.s f, .l L]).bulk ≤ 1099511627776) :
    Calls Tryz.prog 21 #[.agg #[.string f, .slice A n c]] w (GivesS (fmtSD f L) w) := by
  obtain ⟨ms, rfl⟩ := map_of (f := datM) (fun x hx => has_datM (ht x hx))
  rw [fmtSD, un_map unM_dat]
  exact specFrm ⟨f, ms⟩ A n c w h ht hq
theorem implFrmD (f : ByteArray) (L : List Dat) (A : Option Addr) (n c : Nat) (w : World) (h : Lies w (.l L) [.slice A n c]) (ht : ∀ x ∈ L, Has tyMethod x) (hn0 : n ≤ 9223372036854775807) (hP : Pow10 w) :
    Calls Tryz.prog 23 #[.agg #[.string f, .slice A n c]] w (GivesS (fmtSD f L) w) := by
  obtain ⟨ms, rfl⟩ := map_of (f := datM) (fun x hx => has_datM (ht x hx))
  rw [fmtSD, un_map unM_dat]
  exact implFrm ⟨f, ms⟩ A n c w h ht hn0 hP
theorem specFrmLD (L : List Dat) (A : Option Addr) (n c : Nat) (w : World) (h : Lies w (.l L) [.slice A n c]) (ht : ∀ x ∈ L, Has tyScript x) (hq : (Dat.l L).bulk ≤ 1099511627776) :
    Calls Tryz.prog 26 #[.slice A n c] w (GivesS (fmtLD L) w) := by
  obtain ⟨ms, rfl⟩ := map_of (f := datS) (fun x hx => has_datS (ht x hx))
  rw [fmtLD, un_map unS_dat]
  exact specFrmL ms A n c w h ht hq
theorem implFrmLD (L : List Dat) (A : Option Addr) (n c : Nat) (w : World) (h : Lies w (.l L) [.slice A n c]) (ht : ∀ x ∈ L, Has tyScript x) (hn0 : n ≤ 9223372036854775807) (hP : Pow10 w) :
    Calls Tryz.prog 9 #[.slice A n c] w (GivesS (fmtLD L) w) := by
  obtain ⟨ms, rfl⟩ := map_of (f := datS) (fun x hx => has_datS (ht x hx))
  rw [fmtLD, un_map unS_dat]
  exact implFrmL ms A n c w h ht hn0 hP
end Go.Proofs.YthgcodbcafpmhaaGreatDoor
