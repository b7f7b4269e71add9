/- The reference's FormatScript and FormatLibrary.
   The program's FormatScript and FormatLibrary. -/
import Derived.Test.YtgibhbplgiejpaaGreatLibV
import Derived.Test.YtgibhbplgiejpaaGreatFmtA
import Derived.Test.YtgibhbplgiejpaaGreatSpecSA
import Derived.Test.YtgibhbplgiejpaaGreatPrsA
import Derived.Test.YtgibhbplgiejpaaGreatDisA
namespace Go.Proofs.YtgibhbplgiejpaaGreat
open Go.RowKit
set_option linter.unusedVariables false
set_option linter.unusedSimpArgs false
/-- One method of a script in memory. -/
theorem scr_elem {w : World} {ms : List Meth} {A : Option Addr} {n c i : Nat} (h : Lies w (.l (ms.map datM)) [.slice A n c]) (hi : i < n) :
    ∃ b off m A1 n1 c1, A = some ⟨b, off, none⟩ ∧ b < w.heap.size ∧ ms[i]? = some m ∧ w.cell? ⟨b, off + i * 2, none⟩ = some (.string m.name) ∧ w.cell? ⟨b, off + i * 2 + 1, none⟩ = some (.slice A1 n1 c1) ∧ Lies w (.l (m.code.map datI)) [.slice A1 n1 c1] := by
  obtain ⟨b, off, d, xs, rfl, hbw, hz, hl, hlen, hc⟩ := h.elem (k := 2) (fun x hx => by obtain ⟨m, -, rfl⟩ := List.mem_map.1 hx; rfl) hi
  rw [List.getElem?_map, Option.map_eq_some_iff] at hz
  obtain ⟨m, hm, rfl⟩ := hz
  rw [datM, Lies] at hl
  simp only [LiesAll] at hl
  obtain ⟨e0, q0, rfl, h0, e1, q1, rfl, h1, rfl⟩ := hl
  rw [Lies] at h0
  subst h0
  have h1' := h1
  rw [Lies] at h1
  obtain ⟨A1, n1, c1, rfl, -⟩ := h1
  exact ⟨b, off, m, A1, n1, c1, rfl, hbw, hm, hc 0 _ rfl, hc 1 _ rfl, h1'⟩
/-- One instruction of a method in memory. -/
theorem ins_elem {w : World} {L : List I} {A : Option Addr} {n c i : Nat} (h : Lies w (.l (L.map datI)) [.slice A n c]) (hi : i < n) :
    ∃ b off x, A = some ⟨b, off, none⟩ ∧ b < w.heap.size ∧ L[i]? = some x ∧ w.cell? ⟨b, off + i * 6, none⟩ = some (.int .i64 x.op) ∧ w.cell? ⟨b, off + i * 6 + 1, none⟩ = some (.int .i64 x.a) ∧ w.cell? ⟨b, off + i * 6 + 2, none⟩ = some (.int .i64 x.b) ∧
      w.cell? ⟨b, off + i * 6 + 3, none⟩ = some (.int .i64 x.c) ∧ w.cell? ⟨b, off + i * 6 + 4, none⟩ = some (.int .i64 x.d) ∧ w.cell? ⟨b, off + i * 6 + 5, none⟩ = some (.string x.name) := by
  obtain ⟨b, off, d, xs, rfl, hbw, hz, hl, hlen, hc⟩ := h.elem (k := 6) (fun x hx => by obtain ⟨m, -, rfl⟩ := List.mem_map.1 hx; rfl) hi
  rw [List.getElem?_map, Option.map_eq_some_iff] at hz
  obtain ⟨x, hx, rfl⟩ := hz
  rw [datI] at hl
  simp only [Lies, LiesAll] at hl
  obtain ⟨e0, q0, rfl, rfl, e1, q1, rfl, rfl, e2, q2, rfl, rfl, e3, q3, rfl, rfl, e4, q4, rfl, rfl, e5, q5, rfl, rfl, rfl⟩ := hl
  exact ⟨b, off, x, rfl, hbw, hx, hc 0 _ rfl, hc 1 _ rfl, hc 2 _ rfl, hc 3 _ rfl, hc 4 _ rfl, hc 5 _ rfl⟩
/-- One script of a library in memory. -/
theorem lib_elem {w : World} {L : List Scr} {A : Option Addr} {n c i : Nat} (h : Lies w (.l (L.map datS)) [.slice A n c]) (hi : i < n) :
    ∃ b off s A1 n1 c1, A = some ⟨b, off, none⟩ ∧ b < w.heap.size ∧ L[i]? = some s ∧ w.cell? ⟨b, off + i * 2, none⟩ = some (.string s.name) ∧ w.cell? ⟨b, off + i * 2 + 1, none⟩ = some (.slice A1 n1 c1) ∧ Lies w (.l (s.ms.map datM)) [.slice A1 n1 c1] := by
  obtain ⟨b, off, d, xs, rfl, hbw, hz, hl, hlen, hc⟩ := h.elem (k := 2) (fun x hx => by obtain ⟨m, -, rfl⟩ := List.mem_map.1 hx; rfl) hi
  rw [List.getElem?_map, Option.map_eq_some_iff] at hz
  obtain ⟨s, hs, rfl⟩ := hz
  rw [datS, Lies] at hl
  simp only [LiesAll] at hl
  obtain ⟨e0, q0, rfl, h0, e1, q1, rfl, h1, rfl⟩ := hl
  rw [Lies] at h0
  subst h0
  have h1' := h1
  rw [Lies] at h1
  obtain ⟨A1, n1, c1, rfl, -⟩ := h1
  exact ⟨b, off, s, A1, n1, c1, rfl, hbw, hs, hc 0 _ rfl, hc 1 _ rfl, h1'⟩
theorem isScr_ok (s : Scr) : isScr (.r [.s s.name, .l (s.ms.map datM)]) = okS s := isScr_dat s
set_option maxRecDepth 100000 in
set_option maxHeartbeats 8000000 in
theorem specFrm (s : Scr) (A : Option Addr) (n c : Nat) (w : World) (h : Lies w (.l (s.ms.map datM)) [.slice A n c]) (ht : ∀ x ∈ s.ms.map datM, Has tyMethod x) (hq : (Dat.r [.s s.name, .l (s.ms.map datM)]).bulk ≤ 1099511627776) :
    Calls Tryz.prog 111 #[.agg #[.string s.name, .slice A n c]] w (GivesS (strB (fmtS s)) w) := by
  have H := Lib.hid h
  have HT := Lib.hid ht
  have HQ := Lib.hid hq
  have HC : Hid (s.ms.length = n) := Lib.hid (by have := h.count; rwa [List.length_map] at this)
  have X := Lib.hid (show StX w s.name A n c (w.alloc (.cells #[.string s.name, .slice A n c] 37)) from ⟨Box.new w #[.string s.name, .slice A n c] _, (Below.refl _ _).alloc (Nat.le_refl _) _⟩)
  obtain ⟨v, hv⟩ : ∃ v, okS s = v := ⟨_, rfl⟩
  have HV := Lib.hid hv
  have HVV : Hid (isScr (.r [.s s.name, .l (s.ms.map datM)]) = v) := Lib.hid ((isScr_ok s).trans hv)
  clear h ht hq hv
  cases v with
  | false =>
    have HN := Lib.hid (fmtS_no HV.out)
    go_enter Tryz.func111, Tryz.ntmps111
    go_wp2_with fail
    refine (specScr s.name _ A n c _ (H.out.below X.out.2) HT.out HQ.out).mono ?_
    rintro e w1 ⟨rfl, hb⟩
    rw [HVV.out]
    replace X := Lib.hid (X.out.below hb)
    clear hb
    go_wp2_with fail
    go_ret
    exact GivesS.ret HN.out X.out.2
  | true =>
    obtain ⟨hnm, hms, hmm⟩ := okS_parts HV.out
    have hnm6 : s.name.size ≤ 6 := name_short hnm
    have HM := Lib.hid hmm
    have hn4 : n ≤ 4 := by rw [← HC.out]; exact hms
    have HL := Lib.hid (str_script s.name)
    have hsz1 : (⟨#[115, 99, 114, 105, 112, 116, 32]⟩ : ByteArray).size ≤ 7 := Nat.le_refl _
    have hsz2 : (⟨#[10]⟩ : ByteArray).size ≤ 1 := Nat.le_refl _
    have hsz3 : (⟨#[109, 101, 116, 104, 111, 100, 32]⟩ : ByteArray).size ≤ 7 := Nat.le_refl _
    clear hnm hmm
    go_enter Tryz.func111, Tryz.ntmps111
    go_wp2_with fail
    refine (specScr s.name _ A n c _ (H.out.below X.out.2) HT.out HQ.out).mono ?_
    rintro e w1 ⟨rfl, hb⟩
    rw [HVV.out]
    replace X := Lib.hid (X.out.below hb)
    obtain ⟨k0, k1⟩ := X.out.cells
    clear hb
    go_wp2_with fail
    go_loopw [3, 4, 5] (fun tv iv kv wr => ∃ i : Nat, i ≤ n ∧ iv = .int .i64 i ∧ tv = .string (strB (endL (pre s i))) ∧ StX w s.name A n c wr) (fun _ iv _ _ => n - (intOf iv).toNat)
    case atStart => exact ⟨0, Nat.zero_le _, rfl, by rw [pre_zero]; exact congrArg Value.string HL.out, X.out⟩
    case round =>
      obtain ⟨i, hin, rfl, rfl, hX⟩ := hrel
      clear k0 k1 X HL
      have X := Lib.hid hX
      clear hX
      obtain ⟨k0, k1⟩ := X.out.cells
      have hts : (strB (endL (pre s i))).size ≤ 5082 := pre_size HV.out i
      by_cases hlt : i < n
      · obtain ⟨b, off, m, A1, n1, c1, rfl, hbw, hm, hc0, hc1, hl1⟩ := scr_elem H.out hlt
        have hmem := List.mem_of_getElem? hm
        have hm6 : m.name.size ≤ 6 := name_short (HM.out m hmem).1
        have hcl := (HM.out m hmem).2
        have HC1 : Hid (m.code.length = n1) := Lib.hid (by have := hl1.count; rwa [List.length_map] at this)
        have hn12 : n1 ≤ 12 := by rw [← HC1.out]; exact hcl
        have HMS := Lib.hid hm
        have HMM := Lib.hid hmem
        have HL1 := Lib.hid hl1
        have HK0 := Lib.hid hc0
        have HK1 := Lib.hid hc1
        have r0 := (X.out.2.cell (p := ⟨b, off + i * 2, none⟩) hbw).trans HK0.out
        have r1 := (X.out.2.cell (p := ⟨b, off + i * 2 + 1, none⟩) hbw).trans HK1.out
        have HS := Lib.hid (str_method s i m)
        have hi0 : (0 : Int) ≤ i := by omega
        have hi1 : (i : Int) < n := by omega
        clear hm hmem hc0 hc1 hl1 hcl
        go_wp2_with fail
        go_loopw [3, 5] (fun tv kv wq => ∃ k : Nat, k ≤ n1 ∧ kv = .int .i64 k ∧ tv = .string (strB (endL (preM s i m k))) ∧ StX w s.name (some ⟨b, off, none⟩) n c wq) (fun _ kv _ => n1 - (intOf kv).toNat)
        case atStart => exact ⟨0, Nat.zero_le _, rfl, congrArg Value.string HS.out, X.out⟩
        case round =>
          obtain ⟨k, hkn, rfl, rfl, hX2⟩ := hrel
          clear k0 k1 r0 r1 HS
          have X2 := Lib.hid hX2
          clear hX2
          obtain ⟨k0, k1⟩ := X2.out.cells
          have r0 := (X2.out.2.cell (p := ⟨b, off + i * 2, none⟩) hbw).trans HK0.out
          have r1 := (X2.out.2.cell (p := ⟨b, off + i * 2 + 1, none⟩) hbw).trans HK1.out
          have hts2 : (strB (endL (preM s i m k))).size ≤ 5082 := preM_size HV.out i k HMM.out
          by_cases hkl : k < n1
          · obtain ⟨b2, off2, x, rfl, hbw2, hx, x0, x1, x2, x3, x4, x5⟩ := ins_elem (HL1.out.below X2.out.2) hkl
            have HS2 := Lib.hid (str_instr (s := s) (i := i) hx)
            have hfs : (⟨(fmtI x).toArray⟩ : ByteArray).size ≤ 76 := fmtI_short x
            have hk0 : (0 : Int) ≤ k := by omega
            have hk1 : (k : Int) < n1 := by omega
            have HXN : Hid (x.name.size ≤ 140737488351232) := Lib.hid (by have := isI_name (okS_code HV.out HMM.out (List.mem_of_getElem? hx)); have e : (nameW x.name).length = x.name.size := rfl; omega)
            clear hx
            go_wp2_with fail
            refine (specFmt x _ HXN.out).mono ?_
            rintro e w3 ⟨rfl, hb⟩
            have X3 := Lib.hid (X2.out.below hb)
            generalize (⟨(fmtI x).toArray⟩ : ByteArray) = f at *
            clear hb
            go_wp2_with fail
            go_roundw
            case rel => exact ⟨k + 1, by omega, by go_num, congrArg Value.string HS2.out, X3.out⟩
            case measure => simp [intOf]; omega
          · obtain rfl : k = n1 := by omega
            have HE := Lib.hid (pre_next HMS.out (k := k) (Nat.le_of_eq HC1.out))
            go_wp2_with fail
            go_roundw
            case rel => exact ⟨i + 1, by omega, by go_num, by rw [HE.out], X2.out⟩
            case measure => simp [intOf]; omega
      · obtain rfl : i = n := by omega
        have HE : Hid (strB (endL (pre s i)) = strB (fmtS s)) := Lib.hid (by rw [← HC.out]; exact fmtS_yes HV.out)
        go_wp2_with fail
        go_ret
        exact GivesS.ret HE.out X.out.2
theorem bulk_map {L : List Scr} {i : Nat} {s : Scr} (h : L[i]? = some s) (hq : (Dat.l (L.map datS)).bulk ≤ 1099511627776) : (Dat.r [.s s.name, .l (s.ms.map datM)]).bulk ≤ 1099511627776 := by
  have h1 := bulk_mem (ds := L.map datS) (d := datS s) (List.mem_map_of_mem (List.mem_of_getElem? h))
  have e : (datS s).bulk = (Dat.r [.s s.name, .l (s.ms.map datM)]).bulk := rfl
  rw [Dat.bulk] at hq
  omega
theorem has_scr {L : List Scr} (h : ∀ x ∈ L.map datS, Has tyScript x) {i : Nat} {s : Scr} (hs : L[i]? = some s) : ∀ x ∈ s.ms.map datM, Has tyMethod x := by
  have h1 := h (datS s) (List.mem_map_of_mem (List.mem_of_getElem? hs))
  simp only [tyScript, Has, HasAll, datS] at h1
  obtain ⟨ds, e, d0, _, rfl, ⟨f0, rfl, -⟩, d1, _, rfl, ⟨L1, rfl, -, ht1⟩, rfl⟩ := h1
  simp only [Dat.r.injEq, List.cons.injEq, Dat.s.injEq, Dat.l.injEq, and_true] at e
  rw [e.2]
  exact ht1
set_option maxRecDepth 100000 in
set_option maxHeartbeats 8000000 in
theorem specFrmL (L : List Scr) (A : Option Addr) (n c : Nat) (w : World) (h : Lies w (.l (L.map datS)) [.slice A n c]) (ht : ∀ x ∈ L.map datS, Has tyScript x) (hq : (Dat.l (L.map datS)).bulk ≤ 1099511627776) :
    Calls Tryz.prog 98 #[.slice A n c] w (GivesS (strB (fmtL L)) w) := by
  have H := Lib.hid h
  have HT := Lib.hid ht
  have HQ := Lib.hid hq
  have HC : Hid (L.length = n) := Lib.hid (by have := h.count; rwa [List.length_map] at this)
  obtain ⟨v, hv⟩ : ∃ v, okL L = v := ⟨_, rfl⟩
  have HV := Lib.hid hv
  have HVV : Hid (isLib (L.map datS) = v) := Lib.hid ((isLib_dat L).trans hv)
  clear h ht hq hv
  cases v with
  | false =>
    have HN := Lib.hid (fmtL_no HV.out)
    go_enter Tryz.func98, Tryz.ntmps98
    go_wp2_with fail
    refine (specLib _ A n c _ H.out HT.out HQ.out).mono ?_
    rintro e w1 ⟨rfl, hb⟩
    rw [HVV.out]
    have X := Lib.hid hb
    clear hb
    go_wp2_with fail
    go_ret
    exact GivesS.ret HN.out X.out
  | true =>
    have hn6 : n ≤ 6 := by rw [← HC.out]; exact okL_few HV.out
    go_enter Tryz.func98, Tryz.ntmps98
    go_wp2_with fail
    refine (specLib _ A n c _ H.out HT.out HQ.out).mono ?_
    rintro e w1 ⟨rfl, hb⟩
    rw [HVV.out]
    have X := Lib.hid hb
    clear hb
    go_wp2_with fail
    go_loopw [3, 4] (fun tv iv wr => ∃ i : Nat, i ≤ n ∧ iv = .int .i64 i ∧ tv = .string (strB (preL L i)) ∧ Below w.heap.size w wr) (fun _ iv _ => n - (intOf iv).toNat)
    case atStart => exact ⟨0, Nat.zero_le _, rfl, by rw [preL_zero]; rfl, X.out⟩
    case round =>
      obtain ⟨i, hin, rfl, rfl, hX⟩ := hrel
      clear X
      have X := Lib.hid hX
      clear hX
      have hts : (strB (preL L i)).size ≤ 30492 := preL_size HV.out i
      by_cases hlt : i < n
      · obtain ⟨b, off, s, A1, n1, c1, rfl, hbw, hs, hc0, hc1, hl1⟩ := lib_elem H.out hlt
        have HL1 := Lib.hid hl1
        have HS := Lib.hid (preL_next hs)
        have HQ1 := Lib.hid (bulk_map hs HQ.out)
        have HT1 := Lib.hid (has_scr HT.out hs)
        have HK0 := Lib.hid hc0
        have HK1 := Lib.hid hc1
        have r0 := (X.out.cell (p := ⟨b, off + i * 2, none⟩) hbw).trans HK0.out
        have r1 := (X.out.cell (p := ⟨b, off + i * 2 + 1, none⟩) hbw).trans HK1.out
        have hfs := fmtS_short s
        have hi0 : (0 : Int) ≤ i := by omega
        have hi1 : (i : Int) < n := by omega
        clear hs hc0 hc1 hl1
        go_wp2_with fail
        refine (specFrm s A1 n1 c1 _ (HL1.out.below X.out) HT1.out HQ1.out).mono ?_
        rintro e w3 ⟨rfl, hb⟩
        have X3 := Lib.hid (X.out.trans (hb.mono X.out.size))
        clear hb
        go_wp2_with fail
        go_roundw
        case rel => exact ⟨i + 1, by omega, by go_num, congrArg Value.string HS.out, X3.out⟩
        case measure => simp [intOf]; omega
      · obtain rfl : i = n := by omega
        have HE : Hid (strB (preL L i) = strB (fmtL L)) := Lib.hid (preL_all (Nat.le_of_eq HC.out) HV.out)
        go_wp2_with fail
        go_ret
        exact GivesS.ret HE.out X.out
end Go.Proofs.YtgibhbplgiejpaaGreat
namespace Go.Proofs.YtgibhbplgiejpaaGreat
open Go.RowKit
set_option linter.unusedVariables false
set_option linter.unusedSimpArgs false
theorem GrowP.lit1 {α : Type} {P : Elt α} {E : TypeId} {lo : Nat} {w : World} {x : α} {cs : Array Value} {B : Nat → Prop} (hlo : lo ≤ w.heap.size) (hB : B w.heap.size) (hx : ∀ w, P.own w x cs.toList (fun _ => False)) : GrowP P E lo (w.alloc (.cells cs E)) (some ⟨w.heap.size, 0, none⟩) 1 1 [x] B := by
  have hl : cs.size = 1 * P.k := by have := Elt.len (hx w); rw [Array.length_toList] at this; omega
  refine ⟨cs.toList, (fun _ => False), World.ownsRow_lit w cs 1 hlo (by decide) hl, ?_, rfl, fun b hb => hb.elim, fun a e => ?_⟩
  · exact ⟨cs.toList, [], (fun _ => False), (fun _ => False), (List.append_nil _).symm, fun b hb => hb.elim, fun b hb => hb.elim, fun b hb => hb.elim, hx _, rfl⟩
  · obtain rfl := Option.some.inj e
    exact ⟨hB, fun h => h⟩
theorem Rd.lit1At (w : World) (v : Value) (E : TypeId) (k : Nat) (hk : w.heap.size = k) : Rd (w.alloc (.cells #[v] E)) (w.alloc (.cells #[v] E)).heap.size (some ⟨k, 0, none⟩) [v] := by
  subst hk
  exact Rd.lit1 w v E
theorem map_lists (ls : List (List UInt8)) : (ls.map strB).map (·.data.toList) = ls := by
  rw [List.map_map]
  conv => rhs; rw [← List.map_id ls]
  rfl
/-- The script's box and the lines so far. -/
def OtR (W : World) (nm : ByteArray) (A : Option Addr) (n c : Nat) (Al : Option Addr) (nl cl : Nat) (ls : List (List UInt8)) (wr : World) : Prop :=
  StX W nm A n c wr ∧ ∃ B, GrowP strE 9 W.heap.size wr Al nl cl (ls.map strB) B ∧ ∀ b, B b → W.heap.size < b ∧ b < wr.heap.size
/-- And a method's box. -/
def LnR (W : World) (nm : ByteArray) (A : Option Addr) (n c g : Nat) (mn : ByteArray) (A1 : Option Addr) (n1 c1 : Nat) (Al : Option Addr) (nl cl : Nat) (ls : List (List UInt8)) (B : Nat → Prop) (wr : World) : Prop :=
  StX W nm A n c wr ∧ Box g [.string mn, .slice A1 n1 c1] wr ∧ GrowP strE 9 W.heap.size wr Al nl cl (ls.map strB) B ∧ ∀ b, B b → W.heap.size < b ∧ b < wr.heap.size ∧ b ≠ g
section
variable {W wr w' : World} {nm mn : ByteArray} {A A1 Al : Option Addr} {n c g n1 c1 nl cl : Nat} {ls : List (List UInt8)} {B : Nat → Prop}
theorem LnR.below (h : LnR W nm A n c g mn A1 n1 c1 Al nl cl ls B wr) (hb : Below wr.heap.size wr w') : LnR W nm A n c g mn A1 n1 c1 Al nl cl ls B w' :=
  ⟨h.1.below hb, h.2.1.below hb, h.2.2.1.below hb, fun b hB => ⟨(h.2.2.2 b hB).1, Nat.lt_of_lt_of_le (h.2.2.2 b hB).2.1 hb.size, (h.2.2.2 b hB).2.2⟩⟩
theorem LnR.grow (h : LnR W nm A n c g mn A1 n1 c1 Al nl cl ls B wr) : GrowP strE 9 W.heap.size wr Al nl cl (ls.map strB) B := h.2.2.1
theorem LnR.ot (h : LnR W nm A n c g mn A1 n1 c1 Al nl cl ls B wr) : OtR W nm A n c Al nl cl ls wr := ⟨h.1, B, h.2.2.1, fun b hB => ⟨(h.2.2.2 b hB).1, (h.2.2.2 b hB).2.1⟩⟩
theorem LnR.count (h : LnR W nm A n c g mn A1 n1 c1 Al nl cl ls B wr) : ls.length = nl := by have := h.2.2.1.count; rwa [List.length_map] at this
theorem OtR.count (h : OtR W nm A n c Al nl cl ls wr) : ls.length = nl := by obtain ⟨-, B, h1, -⟩ := h; have := h1.count; rwa [List.length_map] at this
theorem OtR.low (h : OtR W nm A n c Al nl cl ls wr) : Below W.heap.size W wr := h.1.2
theorem LnR.low (h : LnR W nm A n c g mn A1 n1 c1 Al nl cl ls B wr) : Below W.heap.size W wr := h.1.2
theorem OtR.ln (h : OtR W nm A n c Al nl cl ls wr) (mn : ByteArray) (A1 : Option Addr) (n1 c1 : Nat) (T : TypeId) : ∃ B, LnR W nm A n c wr.heap.size mn A1 n1 c1 Al nl cl ls B (wr.alloc (.cells #[.string mn, .slice A1 n1 c1] T)) := by
  obtain ⟨h1, B, h2, h3⟩ := h
  have hb : Below wr.heap.size wr (wr.alloc (.cells #[.string mn, .slice A1 n1 c1] T)) := (Below.refl _ _).alloc (Nat.le_refl _) _
  exact ⟨B, h1.below hb, Box.new wr #[.string mn, .slice A1 n1 c1] T, h2.below hb, fun b hB => ⟨(h3 b hB).1, Nat.lt_of_lt_of_le (h3 b hB).2 hb.size, by have := (h3 b hB).2; omega⟩⟩
theorem LnR.next {o w3 : World} {A3 : Option Addr} {c3 : Nat} {x : ByteArray} {p : List UInt8} (h : LnR W nm A n c g mn A1 n1 c1 Al nl cl ls B wr) (hx : x = strB p) (ho : Below wr.heap.size wr o)
    (hG : GrowP strE 9 W.heap.size w3 A3 (nl + 1) c3 (ls.map strB ++ [x]) (fun b => B b ∨ (o.heap.size ≤ b ∧ b < w3.heap.size))) (ht : Touch B o w3) : LnR W nm A n c g mn A1 n1 c1 A3 (nl + 1) c3 (ls ++ [p]) (fun b => B b ∨ (o.heap.size ≤ b ∧ b < w3.heap.size)) w3 := by
  subst hx
  have h' := h.below ho
  have hs := ht.size
  have hg := h'.2.1.1
  have hw := h'.1.1.1
  refine ⟨⟨⟨Nat.lt_of_lt_of_le hw hs, fun i v hv => ?_⟩, h'.1.2.trans (ht.below (fun b hb => Nat.le_of_lt (h'.2.2.2 b hb).1) h'.1.2.size)⟩, ⟨Nat.lt_of_lt_of_le hg hs, fun i v hv => ?_⟩, by rw [List.map_append]; exact hG, fun b hb => ?_⟩
  · exact (World.cell?_of_block (w := o) (a := ⟨W.heap.size, i, none⟩) (ht.block W.heap.size hw (fun hB => absurd (h'.2.2.2 _ hB).1 (Nat.lt_irrefl _)))).trans (h'.1.1.2 i v hv)
  · exact (World.cell?_of_block (w := o) (a := ⟨g, i, none⟩) (ht.block g hg (fun hB => (h'.2.2.2 _ hB).2.2 rfl))).trans (h'.2.1.2 i v hv)
  · rcases hb with hb | hb
    · exact ⟨(h'.2.2.2 b hb).1, Nat.lt_of_lt_of_le (h'.2.2.2 b hb).2.1 hs, (h'.2.2.2 b hb).2.2⟩
    · exact ⟨by omega, hb.2, by omega⟩
end
/-! ### From data -/
def unI : Dat → I
  | .r [.i a, .i b, .i c, .i d, .i e, .s n] => ⟨a, b, c, d, e, n⟩
  | _ => ⟨0, 0, 0, 0, 0, ⟨#[]⟩⟩
def unM : Dat → Meth
  | .r [.s n, .l L] => ⟨n, L.map unI⟩
  | _ => ⟨⟨#[]⟩, []⟩
def unS : Dat → Scr
  | .r [.s n, .l L] => ⟨n, L.map unM⟩
  | _ => ⟨⟨#[]⟩, []⟩
theorem un_map {α : Type} {f : α → Dat} {g : Dat → α} (h : ∀ x, g (f x) = x) (L : List α) : (L.map f).map g = L := by
  rw [List.map_map]
  conv => rhs; rw [← List.map_id L]
  apply List.map_congr_left
  intro x _
  exact h x
theorem unI_dat (x : I) : unI (datI x) = x := rfl
theorem unM_dat (m : Meth) : unM (datM m) = m := by
  show (⟨m.name, (m.code.map datI).map unI⟩ : Meth) = m
  rw [un_map unI_dat]
theorem unS_dat (s : Scr) : unS (datS s) = s := by
  show (⟨s.name, (s.ms.map datM).map unM⟩ : Scr) = s
  rw [un_map unM_dat]
def fmtSD (f : ByteArray) (L : List Dat) : ByteArray := strB (fmtS ⟨f, L.map unM⟩)
def fmtLD (L : List Dat) : ByteArray := strB (fmtL (L.map unS))
theorem specFrmD (f : ByteArray) (L : List Dat) (A : Option Addr) (n c : Nat) (w : World) (h : Lies w (.l L) [.slice A n c]) (ht : ∀ x ∈ L, Has tyMethod x) (hq : (Dat.r [.s f, .l L]).bulk ≤ 1099511627776) :
    Calls Tryz.prog 111 #[.agg #[.string f, .slice A n c]] w (GivesS (fmtSD f L) w) := by
  obtain ⟨ms, rfl⟩ := map_of (f := datM) (fun x hx => has_datM (ht x hx))
  rw [fmtSD, un_map unM_dat]
  exact specFrm ⟨f, ms⟩ A n c w h ht hq
theorem specFrmLD (L : List Dat) (A : Option Addr) (n c : Nat) (w : World) (h : Lies w (.l L) [.slice A n c]) (ht : ∀ x ∈ L, Has tyScript x) (hq : (Dat.l L).bulk ≤ 1099511627776) :
    Calls Tryz.prog 98 #[.slice A n c] w (GivesS (fmtLD L) w) := by
  obtain ⟨ms, rfl⟩ := map_of (f := datS) (fun x hx => has_datS (ht x hx))
  rw [fmtLD, un_map unS_dat]
  exact specFrmL ms A n c w h ht hq
end Go.Proofs.YtgibhbplgiejpaaGreat
