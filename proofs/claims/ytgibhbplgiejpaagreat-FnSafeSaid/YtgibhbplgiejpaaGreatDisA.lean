/- The program's chapter 6: valid and distinct; IsScript, IsLibrary.
   The program's chapter 6: IsLibrary. -/
import Derived.Test.YtgibhbplgiejpaaGreatScrI
import Derived.Test.YtgibhbplgiejpaaGreatIter
namespace Go.Proofs.YtgibhbplgiejpaaGreat
open Go.RowKit Go.Maps Go.Sort
set_option linter.unusedVariables false
set_option linter.unusedSimpArgs false
/-- A record of a name and a slice, as it stood at the beginning. -/
def VRec (w : World) (d : Dat) (v : Value) : Prop := ∃ (f0 : ByteArray) (A1 : Option Addr) (n1 c1 : Nat), v = .agg #[.string f0, .slice A1 n1 c1] ∧ nameOf d = f0 ∧ Lies w d [.string f0, .slice A1 n1 c1]
/-- The map after i rounds. -/
def Filled (P : Program) (K : TypeId) (w : World) (L : List Dat) (i : Nat) (D : DataW Value) (wr : World) : Prop := wr.ownsMap P K heldR w.heap.size i D ∧ KeptD (VRec w) L i D ∧ Below w.heap.size w wr
theorem Filled.below {P : Program} {K : TypeId} {w wr w2 : World} {L : List Dat} {i : Nat} {D : DataW Value} (h : Filled P K w L i D wr) (hb : Below wr.heap.size wr w2) : Filled P K w L i D w2 := ⟨ownsMap_below h.1 hb, h.2.1, h.2.2.trans (hb.mono h.2.2.size)⟩
theorem Filled.put {P : Program} {K : TypeId} {w wr w2 : World} {L : List Dat} {i : Nat} {D : DataW Value} {d : Dat} {v : Value} (h : Filled P K w L i D wr) (hK : Keyed P K) (hd : L[i]? = some d) (hv : VRec w d v) (h2 : w2.ownsMap P K heldR w.heap.size (i + 1) (D.put (nkey d) (.held v))) (hg : wr.grownBy w2 (some w.heap.size)) : Filled P K w L (i + 1) (D.put (nkey d) (.held v)) w2 :=
  ⟨h2, h.2.1.put (h.1.tidy hK) hd hv, h.2.2.grown hg h.2.2.size (fun k e => by cases e; exact Nat.le_refl _)⟩
/-- The sorted names: each is a name of the row. -/
structure Sorted (L : List Dat) (ss : List (List UInt8)) : Prop where
  from_ : ∀ x ∈ ss, ∃ (j : Nat) (d : Dat), L[j]? = some d ∧ (nameOf d).data.toList = x
  all_ : ∀ (j : Nat) (d : Dat), L[j]? = some d → (nameOf d).data.toList ∈ ss
  len : ss.length = L.length
theorem Filled.sorted {P : Program} {K : TypeId} {w wr : World} {L : List Dat} {n : Nat} {D : DataW Value} {ss : List (List UInt8)} (h : Filled P K w L n D wr) (hk : P.underlying K = some .string) (hn : L.length = n) (hs : Maps.size D = n) (hp : ss.Perm (strKeys D)) : Sorted L (ss.mergeSort (fun x y => decide (x ≤ y))) := by
  have hm : ∀ x, x ∈ ss.mergeSort (fun x y => decide (x ≤ y)) ↔ Maps.has D (.string x) = true := fun x => by
    rw [(List.mergeSort_perm ss _).mem_iff, hp.mem_iff, mem_strKeys h.1 hk]
  refine ⟨fun x hx => ?_, fun j d hd => ?_, ?_⟩
  · obtain ⟨j, d, -, hd, hn⟩ := (h.2.1.1 x).1 ((hm x).1 hx)
    exact ⟨j, d, hd, hn⟩
  · exact (hm _).2 ((h.2.1.1 _).2 ⟨j, d, by have := (List.getElem?_eq_some_iff.1 hd).1; omega, hd, rfl⟩)
  · rw [List.length_mergeSort, hp.length_eq]
    obtain ⟨es, rfl⟩ := h.1.isMap
    show (es.map _).length = _
    rw [List.length_map, hn, ← hs]
    rfl
/-- Valid so far. -/
def ValidTo (p : Dat → Bool) (L : List Dat) (ss : List (List UInt8)) (i : Nat) : Prop := ∀ (m : Nat) (x : List UInt8), m < i → ss[m]? = some x → ∀ (j : Nat) (d : Dat), L[j]? = some d → (nameOf d).data.toList = x → p d = true
theorem ValidTo.next {p : Dat → Bool} {L : List Dat} {ss : List (List UInt8)} {i j : Nat} {d : Dat} {x : List UInt8} (h : ValidTo p L ss i) (ha : apart L = true) (hx : ss[i]? = some x) (hd : L[j]? = some d) (hn : (nameOf d).data.toList = x) (hp : p d = true) : ValidTo p L ss (i + 1) := fun m y hm hy k e he hne => by
  by_cases hmi : m = i
  · subst hmi
    rw [hx] at hy
    obtain rfl := Option.some.inj hy
    have hnn : nameOf d = nameOf e := bytes_inj (hn.trans hne.symm)
    have hjk : j = k := by
      rcases Nat.lt_trichotomy j k with h1 | h1 | h1
      · rw [apart_no h1 hd he hnn] at ha; cases ha
      · exact h1
      · rw [apart_no h1 he hd hnn.symm] at ha; cases ha
    subst hjk
    rw [hd] at he
    obtain rfl := Option.some.inj he
    exact hp
  · exact h m y (by omega) hy k e he hne
theorem ValidTo.all {p : Dat → Bool} {L : List Dat} {ss : List (List UInt8)} {n : Nat} (h : ValidTo p L ss n) (hn : ss.length = n) (hS : Sorted L ss) : L.all p = true := by
  rw [List.all_eq_true]
  intro d hd
  obtain ⟨j, hj⟩ := List.mem_iff_getElem?.1 hd
  obtain ⟨m, hm⟩ := List.mem_iff_getElem?.1 (hS.all_ j d hj)
  exact h m _ (by have := (List.getElem?_eq_some_iff.1 hm).1; omega) hm j d hj rfl
def validApart (p : Dat → Bool) (lim : Nat) (L : List Dat) : Bool := decide (L.length ≤ lim) && apart L && L.all p
theorem va_long {p : Dat → Bool} {lim : Nat} {L : List Dat} (h : ¬ L.length ≤ lim) : false = validApart p lim L := by rw [validApart, decide_eq_false h]; rfl
theorem va_twice {p : Dat → Bool} {lim : Nat} {L : List Dat} (h : apart L = false) : false = validApart p lim L := by rw [validApart, h]; simp
theorem va_no {p : Dat → Bool} {lim : Nat} {L : List Dat} {j : Nat} {d : Dat} (hd : L[j]? = some d) (h : p d = false) : false = validApart p lim L := by
  have : L.all p = false := by rw [List.all_eq_false]; exact ⟨d, List.mem_of_getElem? hd, by simp [h]⟩
  rw [validApart, this]; simp
theorem va_yes {p : Dat → Bool} {lim : Nat} {L : List Dat} (h1 : L.length ≤ lim) (h2 : apart L = true) (h3 : L.all p = true) : true = validApart p lim L := by rw [validApart, h2, h3, decide_eq_true h1]; rfl
/-- A row of strings reads so. -/
theorem Rd.str {w w' : World} {A : Option Addr} {ss : List (List UInt8)} {i : Nat} (h : Rd w w.heap.size A (ss.map encStr)) (hb : Below w.heap.size w w') (hi : i < ss.length) : ∃ b off x, A = some ⟨b, off, none⟩ ∧ ss[i]? = some x ∧ w'.cell? ⟨b, off + i, none⟩ = some (.string ⟨x.toArray⟩) := by
  obtain ⟨b, off, e, hlt, hc⟩ := h.at_ (k := i) (by simpa using hi)
  exact ⟨b, off, ss[i], e, List.getElem?_eq_getElem hi, (hb.cell (p := ⟨b, off + i, none⟩) hlt).trans (by simpa [encStr] using hc)⟩
theorem Boxed2.grown {w w1 w2 : World} {x y : Value} {b : Nat} (h : Boxed2 w x y w1) (hg : w1.grownBy w2 (some b)) (hne : b < w.heap.size) : w2.cell? ⟨w.heap.size, 0, none⟩ = some x ∧ w2.cell? ⟨w.heap.size, 1, none⟩ = some y := by
  have e := hg.block w.heap.size h.1.1 (fun e => by have := Option.some.inj e; omega)
  exact ⟨(World.cell?_of_block (w := w1) (a := ⟨w.heap.size, 0, none⟩) e).trans h.two.1, (World.cell?_of_block (w := w1) (a := ⟨w.heap.size, 1, none⟩) e).trans h.two.2⟩
theorem bytes_back (x : List UInt8) : (⟨x.toArray⟩ : ByteArray).data.toList = x := rfl

theorem implMethodD (d : Dat) (f0 : ByteArray) (L1 : List Dat) (A1 : Option Addr) (n1 c1 : Nat) (w : World) (hd : d = .r [.s f0, .l L1]) (h : Lies w (.l L1) [.slice A1 n1 c1]) (ht : ∀ x ∈ L1, Has tyInstr x) (hn : n1 ≤ 9223372036854775807) : Calls Tryz.prog 14 #[.agg #[.string f0, .slice A1 n1 c1]] w (GivesBool (isMeth d) w) := by
  subst hd
  exact implMeth f0 L1 A1 n1 c1 w h ht hn

theorem zeroMethodR (w : World) : (zeroValue 26).run Tryz.prog w = .ok (.agg #[.string ⟨#[]⟩, .slice none 0 0]) w := by kernel_rfl
set_option maxRecDepth 100000 in
set_option maxHeartbeats 8000000 in
theorem disMethod (L : List Dat) (A : Option Addr) (n c : Nat) (w : World) (h : Lies w (.l L) [.slice A n c]) (ht : ∀ x ∈ L, Has tyMethod x) (hn : n ≤ 9223372036854775807) :
    Calls Tryz.prog 101 #[.slice A n c, .int .i64 4, .func (.func 102) #[] #[], .func (.func 14) #[] #[]] w (GivesBool (validApart isMeth 4 L) w) := by
  have H := Lib.hid h
  have HT := Lib.hid ht
  have HC := Lib.hid h.count
  clear h ht
  by_cases hlim : n ≤ 4
  · have hmm := @run_makeMap Tryz.prog
    have F0 : Hid (Filled Tryz.prog 9 w L 0 (.map []) (w.alloc (.map #[] 0))) := Lib.hid ⟨World.ownsMap_made _ _ _ _, KeptD.start _ _, (Below.refl _ _).alloc (Nat.le_refl _) _⟩
    go_enter Tryz.func101, Tryz.ntmps101
    go_wp2
    go_loopw [21] (fun iv wr => ∃ (i : Nat) (D : DataW Value), i ≤ n ∧ iv = .int .i64 i ∧ Filled Tryz.prog 9 w L i D wr) (fun iv _ => n - (intOf iv).toNat)
    case atStart => exact ⟨0, _, Nat.zero_le _, rfl, F0.out⟩
    case round =>
      obtain ⟨i, D, hin, rfl, hF⟩ := hrel
      have HF := Lib.hid hF
      clear hF F0
      by_cases hlt : i < n
      · obtain ⟨b, off, d, xs, rfl, hbw, hzi, hlie, hlen, hcell⟩ := H.out.elem (fun x hx => (HT.out x hx).width) hlt
        have hlie0 := hlie
        obtain ⟨f0, L1, A1, n1, c1, hd, rfl, hf0, hl1, ht1, hm1⟩ := invMethod (HT.out d (List.mem_of_getElem? hzi)) hlie
        have r0 : wr.cell? ⟨b, off + i * 2, none⟩ = some (.string f0) := (HF.out.2.2.cell (p := ⟨b, off + i * 2, none⟩) hbw).trans (hcell 0 _ rfl)
        have r1 : wr.cell? ⟨b, off + i * 2 + 1, none⟩ = some (.slice A1 n1 c1) := (HF.out.2.2.cell (p := ⟨b, off + i * 2 + 1, none⟩) hbw).trans (hcell 1 _ rfl)
        have hnm : nameOf d = f0 := by rw [hd]; rfl
        have HV : Hid (VRec w d (.agg #[.string f0, .slice A1 n1 c1])) := Lib.hid ⟨f0, A1, n1, c1, rfl, hnm, hlie0⟩
        have HK : Hid (keyOf Tryz.prog 9 (.string f0) = some (nkey d)) := Lib.hid (by rw [nkey, hnm]; exact Go.WideMaps.keyOf_string_mk Tryz.underlying9 (by unfold maxLen; omega))
        have HZ := Lib.hid hzi
        have X0 := Lib.hid (Boxed2.mk_ wr (.string f0) (.slice A1 n1 c1) 26).drew
        clear hzi hcell hlie hlie0 hd hl1 ht1 hnm hmm
        go_wp2_with fail
        go_region_held3 (fun w' => w'.cell? ⟨wr.heap.size, 0, none⟩ = some (.string f0) ∧ w'.cell? ⟨wr.heap.size, 1, none⟩ = some (.slice A1 n1 c1))
          (first | with_reducible exact X0.out.two | with_reducible exact X1.out.two | with_reducible exact X2.out)
          ((go_at_call 102; (with_reducible refine (nameMethod _ _ _ _ _).mono ?_); rintro e w5 ⟨rfl, hb5⟩; have X1 := Lib.hid (X0.out.below hb5); have HF5 := Lib.hid (HF.out.below X1.out.2); (obtain ⟨w6, hrun, hm6, hg6⟩ := HF5.out.1.update (string_keyed Tryz.underlying9) Tryz.underlying129 (by unfold maxLen; omega) HK.out (val := .agg #[.string f0, .slice A1 n1 c1]) (d := .held (.agg #[.string f0, .slice A1 n1 c1])) (ps := []) rfl); have HN := Lib.hid (HF5.out.put (string_keyed Tryz.underlying9) HZ.out HV.out hm6 hg6); have X2 := Lib.hid (X1.out.grown hg6 HF.out.1.lt); clear hm6 hg6 hb5))
        all_goals (
          go_wp2_with fail
          go_roundw
          case rel => exact ⟨i + 1, _, by omega, by go_num, HN.out⟩
          case measure => simp [intOf]; omega)
      · obtain rfl : i = n := by omega
        have HS := Lib.hid HF.out.2.1.size_le
        by_cases hsz : Maps.size D = i
        · have HY := Lib.hid (HF.out.2.1.yes HC.out hsz)
          have HSZ := Lib.hid hsz
          have hmx : Maps.size D ≤ maxLen := by unfold maxLen; omega
          have hby : Maps.size D * 16 ≤ 140737488355328 := by omega
          have hlen := HF.out.1.len Tryz.underlying129 3
          rw [hsz] at hlen
          clear hsz hmm
          go_wp2_with fail
          refine (keysOfMethod (some w.heap.size) _).mono ?_
          rintro e w2 ⟨rfl, rfl⟩
          go_wp2_with fail
          refine (sortedOfMethod w.heap.size i D heldR _ HF.out.1 hmx hby).mono ?_
          rintro e w3 ⟨v, ss, rfl, hp, hrow, hnil, hb⟩
          have hS := HF.out.sorted Tryz.underlying9 HC.out HSZ.out hp
          have hsl : ss.length = i := by have h1 := hS.len; rw [List.length_mergeSort] at h1; rw [h1]; exact HC.out
          rw [hsl] at hrow
          have HSL : Hid ((ss.mergeSort (fun x y => decide (x ≤ y))).length = i) := Lib.hid (by rw [List.length_mergeSort]; exact hsl)
          obtain ⟨A', c', rfl, hrd⟩ := row_cells hrow
          have HRD := Lib.hid hrd
          have HF3 := Lib.hid (HF.out.below (((Below.refl _ _).alloc (Nat.le_refl _) _).trans (hb.mono (by simp))))
          have HSO := Lib.hid hS
          clear hp hrow hnil hb hrd hS hsl hmx hby HF hlen
          generalize ss.mergeSort (fun x y => decide (x ≤ y)) = S at *
          clear ss
          go_wp2_with fail
          go_loopw [40] (fun kv wq => ∃ k : Nat, k ≤ i ∧ kv = .int .i64 k ∧ ValidTo isMeth L S k ∧ Below w3.heap.size w3 wq) (fun kv _ => i - (intOf kv).toNat)
          case atStart => exact ⟨0, Nat.zero_le _, rfl, fun m x hm => by omega, Below.refl _ _⟩
          case round =>
            obtain ⟨k, hki, rfl, hval, hb0⟩ := hrel
            have HVAL := Lib.hid hval
            have HB := Lib.hid hb0
            have HFq := Lib.hid (HF3.out.below hb0)
            clear hval hb0
            by_cases hlk : k < i
            · obtain ⟨b, off, x, rfl, hx, hcell⟩ := HRD.out.str HB.out (by rw [HSL.out]; exact hlk)
              obtain ⟨j, d, hd, hnx⟩ := HSO.out.from_ x (List.mem_of_getElem? hx)
              obtain ⟨u, ⟨f0, A1, n1, c1, rfl, hnm, hlie⟩, hat⟩ := HY.out.2 j d hd
              obtain ⟨f0', L1, A1', n1', c1', hdd, hxs, hf0, hl1, ht1, hm1⟩ := invMethod (HT.out d (List.mem_of_getElem? hd)) hlie
              simp only [List.cons.injEq, Value.string.injEq, Value.slice.injEq, and_true] at hxs
              obtain ⟨rfl, rfl, rfl, rfl⟩ := hxs
              have ex : (⟨x.toArray⟩ : ByteArray) = f0 := bytes_inj (by show x = _; rw [← hnx, hnm])
              rw [ex] at hcell
              have HK : Hid (keyOf Tryz.prog 9 (.string f0) = some (nkey d)) := Lib.hid (by rw [nkey, hnm]; exact Go.WideMaps.keyOf_string_mk Tryz.underlying9 (by unfold maxLen; omega))
              have HAT := Lib.hid hat
              have HX := Lib.hid hx
              have HNX := Lib.hid hnx
              have HZ := Lib.hid hd
              have HD := Lib.hid hdd
              have HL1 := Lib.hid (hl1.below HFq.out.2.2)
              have HT1 := Lib.hid ht1
              clear hat hx hnx hd hdd hl1 ht1 ex hlie hnm
              obtain ⟨v, hv⟩ : ∃ v, isMeth d = v := ⟨_, rfl⟩
              have HV := Lib.hid hv
              clear hv
              go_wp2_with (refine wpList_lookup_held rfl _ _ 129 rfl 26 (string_keyed Tryz.underlying9) Tryz.underlying129 (zeroMethodR _) rfl HFq.out.1 _ (nkey d) rfl HK.out _ (HAT.out _) ?_)
              refine (implMethodD d f0 L1 A1 n1 c1 _ HD.out HL1.out HT1.out hm1).mono ?_
              rintro e w4 ⟨rfl, hb4⟩
              rw [HV.out]
              have HB4 := Lib.hid (HB.out.trans (hb4.mono HB.out.size))
              have HW4 := Lib.hid (HFq.out.2.2.trans (hb4.mono HFq.out.2.2.size))
              clear hb4
              cases v with
              | false =>
                have HN := Lib.hid (va_no (p := isMeth) (lim := 4) HZ.out HV.out)
                go_wp2_with fail
                go_ret
                exact GivesBool.of HN.out HW4.out
              | true =>
                have HN := Lib.hid (HVAL.out.next HY.out.1 HX.out HZ.out HNX.out HV.out)
                go_wp2_with fail
                go_roundw
                case rel => exact ⟨k + 1, by omega, by go_num, HN.out, HB4.out⟩
                case measure => simp [intOf]; omega
            · obtain rfl : k = i := by omega
              have HN := Lib.hid (va_yes (p := isMeth) (lim := 4) (L := L) (by rw [HC.out]; exact hlim) HY.out.1 (HVAL.out.all HSL.out HSO.out))
              go_wp2_with fail
              go_ret
              exact GivesBool.of HN.out HFq.out.2.2
        · have HN := Lib.hid (va_twice (p := isMeth) (lim := 4) (HF.out.2.1.no HC.out hsz))
          have hsi : ((Maps.size D : Int) != (i : Int)) = true := by simp; omega
          clear hsz hmm
          have hlen := HF.out.1.len Tryz.underlying129 3
          go_wp2_with fail
          go_ret
          exact GivesBool.of HN.out HF.out.2.2
  · have HL := Lib.hid (va_long (p := isMeth) (lim := 4) (L := L) (by rw [HC.out]; exact hlim))
    go_enter Tryz.func101, Tryz.ntmps101
    go_wp2
    go_ret
    exact GivesBool.of HL.out (Below.refl _ _)

theorem scr_val (nm : ByteArray) (L : List Dat) : (isName nm && validApart isMeth 4 L) = isScr (.r [.s nm, .l L]) := by
  show _ = (L.all isMeth && apart L && isName nm && decide (L.length ≤ 4))
  rw [validApart]
  cases isName nm <;> cases decide (L.length ≤ 4) <;> cases L.all isMeth <;> cases apart L <;> rfl
theorem lib_val (L : List Dat) : validApart isScr 6 L = isLib L := by
  rw [validApart, isLib]
  cases decide (L.length ≤ 6) <;> cases L.all isScr <;> cases apart L <;> rfl
set_option maxHeartbeats 4000000 in
theorem implScr (nm : ByteArray) (L : List Dat) (A : Option Addr) (n c : Nat) (w : World) (h : Lies w (.l L) [.slice A n c]) (ht : ∀ x ∈ L, Has tyMethod x) (hn : n ≤ 9223372036854775807) : Calls Tryz.prog 82 #[.agg #[.string nm, .slice A n c]] w (GivesBool (isScr (.r [.s nm, .l L])) w) := by
  have X0 : Hid (Boxed2 w (.string nm) (.slice A n c) (w.alloc (.cells #[.string nm, .slice A n c] 37))) := Lib.hid (Boxed2.mk_ w _ _ _)
  have H := Lib.hid h
  have HT := Lib.hid ht
  have HE := Lib.hid (scr_val nm L)
  clear h ht
  obtain ⟨v, hv⟩ : ∃ v, isName nm = v := ⟨_, rfl⟩
  have HV := Lib.hid hv
  clear hv
  cases v with
  | false =>
    go_enter Tryz.func82, Tryz.ntmps82
    go_wp2_with fail
    refine (implName nm _).mono ?_
    rintro e w2 ⟨rfl, hb⟩
    rw [HV.out]
    have X2 := Lib.hid (X0.out.below hb)
    clear hb X0
    go_wp2_with fail
    go_ret
    exact GivesBool.of (by rw [← HE.out, HV.out]; rfl) X2.out.2
  | true =>
    go_enter Tryz.func82, Tryz.ntmps82
    go_wp2_with fail
    refine (implName nm _).mono ?_
    rintro e w2 ⟨rfl, hb⟩
    rw [HV.out]
    have X2 := Lib.hid (X0.out.below hb)
    clear hb X0
    obtain ⟨q0, q1⟩ := X2.out.two
    go_wp2_with fail
    refine (disMethod L A n c _ (H.out.below X2.out.2) HT.out hn).mono ?_
    rintro e w3 ⟨rfl, hb⟩
    have X3 := Lib.hid (X2.out.below hb)
    clear hb q0 q1 X2
    go_wp2_with fail
    go_ret
    exact GivesBool.of (by rw [← HE.out, HV.out]; simp) X3.out.2
theorem implScriptD (d : Dat) (f0 : ByteArray) (L1 : List Dat) (A1 : Option Addr) (n1 c1 : Nat) (w : World) (hd : d = .r [.s f0, .l L1]) (h : Lies w (.l L1) [.slice A1 n1 c1]) (ht : ∀ x ∈ L1, Has tyMethod x) (hn : n1 ≤ 9223372036854775807) : Calls Tryz.prog 82 #[.agg #[.string f0, .slice A1 n1 c1]] w (GivesBool (isScr d) w) := by
  subst hd
  exact implScr f0 L1 A1 n1 c1 w h ht hn

end Go.Proofs.YtgibhbplgiejpaaGreat
namespace Go.Proofs.YtgibhbplgiejpaaGreat
open Go.RowKit Go.Maps Go.Sort
set_option linter.unusedVariables false
set_option linter.unusedSimpArgs false

theorem zeroScriptR (w : World) : (zeroValue 37).run Tryz.prog w = .ok (.agg #[.string ⟨#[]⟩, .slice none 0 0]) w := by kernel_rfl
set_option maxRecDepth 100000 in
set_option maxHeartbeats 8000000 in
theorem disScript (L : List Dat) (A : Option Addr) (n c : Nat) (w : World) (h : Lies w (.l L) [.slice A n c]) (ht : ∀ x ∈ L, Has tyScript x) (hn : n ≤ 9223372036854775807) :
    Calls Tryz.prog 80 #[.slice A n c, .int .i64 6, .func (.func 81) #[] #[], .func (.func 82) #[] #[]] w (GivesBool (validApart isScr 6 L) w) := by
  have H := Lib.hid h
  have HT := Lib.hid ht
  have HC := Lib.hid h.count
  clear h ht
  by_cases hlim : n ≤ 6
  · have hmm := @run_makeMap Tryz.prog
    have F0 : Hid (Filled Tryz.prog 9 w L 0 (.map []) (w.alloc (.map #[] 0))) := Lib.hid ⟨World.ownsMap_made _ _ _ _, KeptD.start _ _, (Below.refl _ _).alloc (Nat.le_refl _) _⟩
    go_enter Tryz.func80, Tryz.ntmps80
    go_wp2
    go_loopw [21] (fun iv wr => ∃ (i : Nat) (D : DataW Value), i ≤ n ∧ iv = .int .i64 i ∧ Filled Tryz.prog 9 w L i D wr) (fun iv _ => n - (intOf iv).toNat)
    case atStart => exact ⟨0, _, Nat.zero_le _, rfl, F0.out⟩
    case round =>
      obtain ⟨i, D, hin, rfl, hF⟩ := hrel
      have HF := Lib.hid hF
      clear hF F0
      by_cases hlt : i < n
      · obtain ⟨b, off, d, xs, rfl, hbw, hzi, hlie, hlen, hcell⟩ := H.out.elem (fun x hx => (HT.out x hx).width) hlt
        have hlie0 := hlie
        obtain ⟨f0, L1, A1, n1, c1, hd, rfl, hf0, hl1, ht1, hm1⟩ := invScript (HT.out d (List.mem_of_getElem? hzi)) hlie
        have r0 : wr.cell? ⟨b, off + i * 2, none⟩ = some (.string f0) := (HF.out.2.2.cell (p := ⟨b, off + i * 2, none⟩) hbw).trans (hcell 0 _ rfl)
        have r1 : wr.cell? ⟨b, off + i * 2 + 1, none⟩ = some (.slice A1 n1 c1) := (HF.out.2.2.cell (p := ⟨b, off + i * 2 + 1, none⟩) hbw).trans (hcell 1 _ rfl)
        have hnm : nameOf d = f0 := by rw [hd]; rfl
        have HV : Hid (VRec w d (.agg #[.string f0, .slice A1 n1 c1])) := Lib.hid ⟨f0, A1, n1, c1, rfl, hnm, hlie0⟩
        have HK : Hid (keyOf Tryz.prog 9 (.string f0) = some (nkey d)) := Lib.hid (by rw [nkey, hnm]; exact Go.WideMaps.keyOf_string_mk Tryz.underlying9 (by unfold maxLen; omega))
        have HZ := Lib.hid hzi
        have X0 := Lib.hid (Boxed2.mk_ wr (.string f0) (.slice A1 n1 c1) 37).drew
        clear hzi hcell hlie hlie0 hd hl1 ht1 hnm hmm
        go_wp2_with fail
        go_region_held3 (fun w' => w'.cell? ⟨wr.heap.size, 0, none⟩ = some (.string f0) ∧ w'.cell? ⟨wr.heap.size, 1, none⟩ = some (.slice A1 n1 c1))
          (first | with_reducible exact X0.out.two | with_reducible exact X1.out.two | with_reducible exact X2.out)
          ((go_at_call 81; (with_reducible refine (nameScript _ _ _ _ _).mono ?_); rintro e w5 ⟨rfl, hb5⟩; have X1 := Lib.hid (X0.out.below hb5); have HF5 := Lib.hid (HF.out.below X1.out.2); (obtain ⟨w6, hrun, hm6, hg6⟩ := HF5.out.1.update (string_keyed Tryz.underlying9) Tryz.underlying111 (by unfold maxLen; omega) HK.out (val := .agg #[.string f0, .slice A1 n1 c1]) (d := .held (.agg #[.string f0, .slice A1 n1 c1])) (ps := []) rfl); have HN := Lib.hid (HF5.out.put (string_keyed Tryz.underlying9) HZ.out HV.out hm6 hg6); have X2 := Lib.hid (X1.out.grown hg6 HF.out.1.lt); clear hm6 hg6 hb5))
        all_goals (
          go_wp2_with fail
          go_roundw
          case rel => exact ⟨i + 1, _, by omega, by go_num, HN.out⟩
          case measure => simp [intOf]; omega)
      · obtain rfl : i = n := by omega
        have HS := Lib.hid HF.out.2.1.size_le
        by_cases hsz : Maps.size D = i
        · have HY := Lib.hid (HF.out.2.1.yes HC.out hsz)
          have HSZ := Lib.hid hsz
          have hmx : Maps.size D ≤ maxLen := by unfold maxLen; omega
          have hby : Maps.size D * 16 ≤ 140737488355328 := by omega
          have hlen := HF.out.1.len Tryz.underlying111 3
          rw [hsz] at hlen
          clear hsz hmm
          go_wp2_with fail
          refine (keysOfScript (some w.heap.size) _).mono ?_
          rintro e w2 ⟨rfl, rfl⟩
          go_wp2_with fail
          refine (sortedOfScript w.heap.size i D heldR _ HF.out.1 hmx hby).mono ?_
          rintro e w3 ⟨v, ss, rfl, hp, hrow, hnil, hb⟩
          have hS := HF.out.sorted Tryz.underlying9 HC.out HSZ.out hp
          have hsl : ss.length = i := by have h1 := hS.len; rw [List.length_mergeSort] at h1; rw [h1]; exact HC.out
          rw [hsl] at hrow
          have HSL : Hid ((ss.mergeSort (fun x y => decide (x ≤ y))).length = i) := Lib.hid (by rw [List.length_mergeSort]; exact hsl)
          obtain ⟨A', c', rfl, hrd⟩ := row_cells hrow
          have HRD := Lib.hid hrd
          have HF3 := Lib.hid (HF.out.below (((Below.refl _ _).alloc (Nat.le_refl _) _).trans (hb.mono (by simp))))
          have HSO := Lib.hid hS
          clear hp hrow hnil hb hrd hS hsl hmx hby HF hlen
          generalize ss.mergeSort (fun x y => decide (x ≤ y)) = S at *
          clear ss
          go_wp2_with fail
          go_loopw [40] (fun kv wq => ∃ k : Nat, k ≤ i ∧ kv = .int .i64 k ∧ ValidTo isScr L S k ∧ Below w3.heap.size w3 wq) (fun kv _ => i - (intOf kv).toNat)
          case atStart => exact ⟨0, Nat.zero_le _, rfl, fun m x hm => by omega, Below.refl _ _⟩
          case round =>
            obtain ⟨k, hki, rfl, hval, hb0⟩ := hrel
            have HVAL := Lib.hid hval
            have HB := Lib.hid hb0
            have HFq := Lib.hid (HF3.out.below hb0)
            clear hval hb0
            by_cases hlk : k < i
            · obtain ⟨b, off, x, rfl, hx, hcell⟩ := HRD.out.str HB.out (by rw [HSL.out]; exact hlk)
              obtain ⟨j, d, hd, hnx⟩ := HSO.out.from_ x (List.mem_of_getElem? hx)
              obtain ⟨u, ⟨f0, A1, n1, c1, rfl, hnm, hlie⟩, hat⟩ := HY.out.2 j d hd
              obtain ⟨f0', L1, A1', n1', c1', hdd, hxs, hf0, hl1, ht1, hm1⟩ := invScript (HT.out d (List.mem_of_getElem? hd)) hlie
              simp only [List.cons.injEq, Value.string.injEq, Value.slice.injEq, and_true] at hxs
              obtain ⟨rfl, rfl, rfl, rfl⟩ := hxs
              have ex : (⟨x.toArray⟩ : ByteArray) = f0 := bytes_inj (by show x = _; rw [← hnx, hnm])
              rw [ex] at hcell
              have HK : Hid (keyOf Tryz.prog 9 (.string f0) = some (nkey d)) := Lib.hid (by rw [nkey, hnm]; exact Go.WideMaps.keyOf_string_mk Tryz.underlying9 (by unfold maxLen; omega))
              have HAT := Lib.hid hat
              have HX := Lib.hid hx
              have HNX := Lib.hid hnx
              have HZ := Lib.hid hd
              have HD := Lib.hid hdd
              have HL1 := Lib.hid (hl1.below HFq.out.2.2)
              have HT1 := Lib.hid ht1
              clear hat hx hnx hd hdd hl1 ht1 ex hlie hnm
              obtain ⟨v, hv⟩ : ∃ v, isScr d = v := ⟨_, rfl⟩
              have HV := Lib.hid hv
              clear hv
              go_wp2_with (refine wpList_lookup_held rfl _ _ 111 rfl 37 (string_keyed Tryz.underlying9) Tryz.underlying111 (zeroScriptR _) rfl HFq.out.1 _ (nkey d) rfl HK.out _ (HAT.out _) ?_)
              refine (implScriptD d f0 L1 A1 n1 c1 _ HD.out HL1.out HT1.out hm1).mono ?_
              rintro e w4 ⟨rfl, hb4⟩
              rw [HV.out]
              have HB4 := Lib.hid (HB.out.trans (hb4.mono HB.out.size))
              have HW4 := Lib.hid (HFq.out.2.2.trans (hb4.mono HFq.out.2.2.size))
              clear hb4
              cases v with
              | false =>
                have HN := Lib.hid (va_no (p := isScr) (lim := 6) HZ.out HV.out)
                go_wp2_with fail
                go_ret
                exact GivesBool.of HN.out HW4.out
              | true =>
                have HN := Lib.hid (HVAL.out.next HY.out.1 HX.out HZ.out HNX.out HV.out)
                go_wp2_with fail
                go_roundw
                case rel => exact ⟨k + 1, by omega, by go_num, HN.out, HB4.out⟩
                case measure => simp [intOf]; omega
            · obtain rfl : k = i := by omega
              have HN := Lib.hid (va_yes (p := isScr) (lim := 6) (L := L) (by rw [HC.out]; exact hlim) HY.out.1 (HVAL.out.all HSL.out HSO.out))
              go_wp2_with fail
              go_ret
              exact GivesBool.of HN.out HFq.out.2.2
        · have HN := Lib.hid (va_twice (p := isScr) (lim := 6) (HF.out.2.1.no HC.out hsz))
          have hsi : ((Maps.size D : Int) != (i : Int)) = true := by simp; omega
          clear hsz hmm
          have hlen := HF.out.1.len Tryz.underlying111 3
          go_wp2_with fail
          go_ret
          exact GivesBool.of HN.out HF.out.2.2
  · have HL := Lib.hid (va_long (p := isScr) (lim := 6) (L := L) (by rw [HC.out]; exact hlim))
    go_enter Tryz.func80, Tryz.ntmps80
    go_wp2
    go_ret
    exact GivesBool.of HL.out (Below.refl _ _)

set_option maxHeartbeats 1000000 in
theorem implLib (L : List Dat) (A : Option Addr) (n c : Nat) (w : World) (h : Lies w (.l L) [.slice A n c]) (ht : ∀ x ∈ L, Has tyScript x) (hn : n ≤ 9223372036854775807) : Calls Tryz.prog 44 #[.slice A n c] w (GivesBool (isLib L) w) := by
  have HE := Lib.hid (lib_val L)
  go_enter Tryz.func44, Tryz.ntmps44
  go_wp2_with fail
  refine (disScript L A n c _ h ht hn).mono ?_
  rintro e w2 ⟨rfl, hb⟩
  have HB := Lib.hid hb
  clear hb
  go_wp2_with fail
  go_ret
  exact GivesBool.of HE.out HB.out

end Go.Proofs.YtgibhbplgiejpaaGreat
