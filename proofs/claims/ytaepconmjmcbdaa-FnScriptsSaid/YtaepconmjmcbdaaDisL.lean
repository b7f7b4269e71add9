/- The program's chapter 6: IsLibrary. -/
import Derived.Test.YtaepconmjmcbdaaDis
namespace Go.Proofs.Ytaepconmjmcbdaa
open Go.RowKit Go.Maps Go.Sort
set_option linter.unusedVariables false
set_option linter.unusedSimpArgs false

theorem zeroScriptR (w : World) : (zeroValue 34).run Try.prog w = .ok (.agg #[.string ⟨#[]⟩, .slice none 0 0]) w := by kernel_rfl
set_option maxRecDepth 100000 in
set_option maxHeartbeats 8000000 in
theorem disScript (L : List Dat) (A : Option Addr) (n c : Nat) (w : World) (h : Lies w (.l L) [.slice A n c]) (ht : ∀ x ∈ L, Has tyScript x) (hn : n ≤ 9223372036854775807) :
    Calls Try.prog 57 #[.slice A n c, .int .i64 6, .func (.func 58) #[] #[], .func (.func 22) #[] #[]] w (GivesBool (validApart isScr 6 L) w) := by
  have H := Lib.hid h
  have HT := Lib.hid ht
  have HC := Lib.hid h.count
  clear h ht
  by_cases hlim : n ≤ 6
  · have hmm := @run_makeMap Try.prog
    have F0 : Hid (Filled Try.prog 9 w L 0 (.map []) (w.alloc (.map #[] 0))) := Lib.hid ⟨World.ownsMap_made _ _ _ _, KeptD.start _ _, (Below.refl _ _).alloc (Nat.le_refl _) _⟩
    go_enter Try.func57, Try.ntmps57
    go_wp2
    go_loopw [21] (fun iv wr => ∃ (i : Nat) (D : DataW Value), i ≤ n ∧ iv = .int .i64 i ∧ Filled Try.prog 9 w L i D wr) (fun iv _ => n - (intOf iv).toNat)
    case atStart => exact ⟨0, _, Nat.zero_le _, rfl, F0.out⟩
    case round =>
      obtain ⟨i, D, hin, rfl, hF⟩ := hrel
      have HF := Lib.hid hF
      clear hF F0
      by_cases hlt : i < n
      · obtain ⟨b, off, d, xs, rfl, hbw, hzi, hlie, hlen, hcell⟩ := H.out.elem (fun x hx => (HT.out x hx).width) hlt
        have hlie0 := hlie
        obtain ⟨f0, L1, A1, n1, c1, hd, rfl, hf0, hl1, ht1, hm1⟩ := invScript (HT.out d (List.mem_of_getElem? hzi)) hlie
        have r0 : wr.cell? ⟨b, off + i * 2, none⟩ = some (.string f0) := (HF.out.2.2.cell (p := ⟨b, off + i * 2, none⟩) hbw).trans (hcell 0 _ rfl)
        have r1 : wr.cell? ⟨b, off + i * 2 + 1, none⟩ = some (.slice A1 n1 c1) := (HF.out.2.2.cell (p := ⟨b, off + i * 2 + 1, none⟩) hbw).trans (hcell 1 _ rfl)
        have hnm : nameOf d = f0 := by rw [hd]; rfl
        have HV : Hid (VRec w d (.agg #[.string f0, .slice A1 n1 c1])) := Lib.hid ⟨f0, A1, n1, c1, rfl, hnm, hlie0⟩
        have HK : Hid (keyOf Try.prog 9 (.string f0) = some (nkey d)) := Lib.hid (by rw [nkey, hnm]; exact Go.WideMaps.keyOf_string_mk Try.underlying9 (by unfold maxLen; omega))
        have HZ := Lib.hid hzi
        have X0 := Lib.hid (Boxed2.mk_ wr (.string f0) (.slice A1 n1 c1) 34).drew
        clear hzi hcell hlie hlie0 hd hl1 ht1 hnm hmm
        go_wp2_with fail
        go_region_held3 (fun w' => w'.cell? ⟨wr.heap.size, 0, none⟩ = some (.string f0) ∧ w'.cell? ⟨wr.heap.size, 1, none⟩ = some (.slice A1 n1 c1))
          (first | with_reducible exact X0.out.two | with_reducible exact X1.out.two | with_reducible exact X2.out)
          ((go_at_call 58; (with_reducible refine (nameScript _ _ _ _ _).mono ?_); rintro e w5 ⟨rfl, hb5⟩; have X1 := Lib.hid (X0.out.below hb5); have HF5 := Lib.hid (HF.out.below X1.out.2); (obtain ⟨w6, hrun, hm6, hg6⟩ := HF5.out.1.update (string_keyed Try.underlying9) Try.underlying108 (by unfold maxLen; omega) HK.out (val := .agg #[.string f0, .slice A1 n1 c1]) (d := .held (.agg #[.string f0, .slice A1 n1 c1])) (ps := []) rfl); have HN := Lib.hid (HF5.out.put (string_keyed Try.underlying9) HZ.out HV.out hm6 hg6); have X2 := Lib.hid (X1.out.grown hg6 HF.out.1.lt); clear hm6 hg6 hb5))
        all_goals (
          go_wp2_with fail
          go_roundw
          case rel => exact ⟨i + 1, _, by omega, by go_num, HN.out⟩
          case measure => simp [intOf]; omega)
      · obtain rfl : i = n := by omega
        have HS := Lib.hid HF.out.2.1.size_le
        by_cases hsz : Maps.size D = i
        · have HY := Lib.hid (HF.out.2.1.yes HC.out hsz)
          have HSZ := Lib.hid hsz
          have hmx : Maps.size D ≤ maxLen := by unfold maxLen; omega
          have hby : Maps.size D * 16 ≤ 140737488355328 := by omega
          have hlen := HF.out.1.len Try.underlying108 3
          rw [hsz] at hlen
          clear hsz hmm
          go_wp2_with fail
          refine (keysOfScript (some w.heap.size) _).mono ?_
          rintro e w2 ⟨rfl, rfl⟩
          go_wp2_with fail
          refine (sortedOfScript w.heap.size i D heldR _ HF.out.1 hmx hby).mono ?_
          rintro e w3 ⟨v, ss, rfl, hp, hrow, hnil, hb⟩
          have hS := HF.out.sorted Try.underlying9 HC.out HSZ.out hp
          have hsl : ss.length = i := by have h1 := hS.len; rw [List.length_mergeSort] at h1; rw [h1]; exact HC.out
          rw [hsl] at hrow
          have HSL : Hid ((ss.mergeSort (fun x y => decide (x ≤ y))).length = i) := Lib.hid (by rw [List.length_mergeSort]; exact hsl)
          obtain ⟨A', c', rfl, hrd⟩ := row_cells hrow
          have HRD := Lib.hid hrd
          have HF3 := Lib.hid (HF.out.below (((Below.refl _ _).alloc (Nat.le_refl _) _).trans (hb.mono (by simp))))
          have HSO := Lib.hid hS
          clear hp hrow hnil hb hrd hS hsl hmx hby HF hlen
          generalize ss.mergeSort (fun x y => decide (x ≤ y)) = S at *
          clear ss
          go_wp2_with fail
          go_loopw [40] (fun kv wq => ∃ k : Nat, k ≤ i ∧ kv = .int .i64 k ∧ ValidTo isScr L S k ∧ Below w3.heap.size w3 wq) (fun kv _ => i - (intOf kv).toNat)
          case atStart => exact ⟨0, Nat.zero_le _, rfl, fun m x hm => by omega, Below.refl _ _⟩
          case round =>
            obtain ⟨k, hki, rfl, hval, hb0⟩ := hrel
            have HVAL := Lib.hid hval
            have HB := Lib.hid hb0
            have HFq := Lib.hid (HF3.out.below hb0)
            clear hval hb0
            by_cases hlk : k < i
            · obtain ⟨b, off, x, rfl, hx, hcell⟩ := HRD.out.str HB.out (by rw [HSL.out]; exact hlk)
              obtain ⟨j, d, hd, hnx⟩ := HSO.out.from_ x (List.mem_of_getElem? hx)
              obtain ⟨u, ⟨f0, A1, n1, c1, rfl, hnm, hlie⟩, hat⟩ := HY.out.2 j d hd
              obtain ⟨f0', L1, A1', n1', c1', hdd, hxs, hf0, hl1, ht1, hm1⟩ := invScript (HT.out d (List.mem_of_getElem? hd)) hlie
              simp only [List.cons.injEq, Value.string.injEq, Value.slice.injEq, and_true] at hxs
              obtain ⟨rfl, rfl, rfl, rfl⟩ := hxs
              have ex : (⟨x.toArray⟩ : ByteArray) = f0 := bytes_inj (by show x = _; rw [← hnx, hnm])
              rw [ex] at hcell
              have HK : Hid (keyOf Try.prog 9 (.string f0) = some (nkey d)) := Lib.hid (by rw [nkey, hnm]; exact Go.WideMaps.keyOf_string_mk Try.underlying9 (by unfold maxLen; omega))
              have HAT := Lib.hid hat
              have HX := Lib.hid hx
              have HNX := Lib.hid hnx
              have HZ := Lib.hid hd
              have HD := Lib.hid hdd
              have HL1 := Lib.hid (hl1.below HFq.out.2.2)
              have HT1 := Lib.hid ht1
              clear hat hx hnx hd hdd hl1 ht1 ex hlie hnm
              obtain ⟨v, hv⟩ : ∃ v, isScr d = v := ⟨_, rfl⟩
              have HV := Lib.hid hv
              clear hv
              go_wp2_with (refine wpList_lookup_held rfl _ _ 108 rfl 34 (string_keyed Try.underlying9) Try.underlying108 (zeroScriptR _) rfl HFq.out.1 _ (nkey d) rfl HK.out _ (HAT.out _) ?_)
              refine (implScriptD d f0 L1 A1 n1 c1 _ HD.out HL1.out HT1.out hm1).mono ?_
              rintro e w4 ⟨rfl, hb4⟩
              rw [HV.out]
              have HB4 := Lib.hid (HB.out.trans (hb4.mono HB.out.size))
              have HW4 := Lib.hid (HFq.out.2.2.trans (hb4.mono HFq.out.2.2.size))
              clear hb4
              cases v with
              | false =>
                have HN := Lib.hid (va_no (p := isScr) (lim := 6) HZ.out HV.out)
                go_wp2_with fail
                go_ret
                exact GivesBool.of HN.out HW4.out
              | true =>
                have HN := Lib.hid (HVAL.out.next HY.out.1 HX.out HZ.out HNX.out HV.out)
                go_wp2_with fail
                go_roundw
                case rel => exact ⟨k + 1, by omega, by go_num, HN.out, HB4.out⟩
                case measure => simp [intOf]; omega
            · obtain rfl : k = i := by omega
              have HN := Lib.hid (va_yes (p := isScr) (lim := 6) (L := L) (by rw [HC.out]; exact hlim) HY.out.1 (HVAL.out.all HSL.out HSO.out))
              go_wp2_with fail
              go_ret
              exact GivesBool.of HN.out HFq.out.2.2
        · have HN := Lib.hid (va_twice (p := isScr) (lim := 6) (HF.out.2.1.no HC.out hsz))
          have hsi : ((Maps.size D : Int) != (i : Int)) = true := by simp; omega
          clear hsz hmm
          have hlen := HF.out.1.len Try.underlying108 3
          go_wp2_with fail
          go_ret
          exact GivesBool.of HN.out HF.out.2.2
  · have HL := Lib.hid (va_long (p := isScr) (lim := 6) (L := L) (by rw [HC.out]; exact hlim))
    go_enter Try.func57, Try.ntmps57
    go_wp2
    go_ret
    exact GivesBool.of HL.out (Below.refl _ _)

set_option maxHeartbeats 1000000 in
theorem implLib (L : List Dat) (A : Option Addr) (n c : Nat) (w : World) (h : Lies w (.l L) [.slice A n c]) (ht : ∀ x ∈ L, Has tyScript x) (hn : n ≤ 9223372036854775807) : Calls Try.prog 20 #[.slice A n c] w (GivesBool (isLib L) w) := by
  have HE := Lib.hid (lib_val L)
  go_enter Try.func20, Try.ntmps20
  go_wp2_with fail
  refine (disScript L A n c _ h ht hn).mono ?_
  rintro e w2 ⟨rfl, hb⟩
  have HB := Lib.hid hb
  clear hb
  go_wp2_with fail
  go_ret
  exact GivesBool.of HE.out HB.out

end Go.Proofs.Ytaepconmjmcbdaa
