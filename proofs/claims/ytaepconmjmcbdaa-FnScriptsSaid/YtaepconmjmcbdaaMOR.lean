/- The reference's chapter 6: MethodOf. -/
import Derived.Test.YtaepconmjmcbdaaMO
namespace Go.Proofs.Ytaepconmjmcbdaa
open Go.RowKit
set_option linter.unusedVariables false
set_option linter.unusedSimpArgs false
theorem find_val {L : List Dat} {nm : ByteArray} {j : Nat} (h : ∀ (i : Nat) (e : Dat), i < j → L[i]? = some e → named nm e = false) {m : Dat} (hm : L[j]? = some m) (hn : named nm m = true) : find L nm = j := by
  rw [← find_idx]; exact (idx_at h hm hn).symm
theorem find_val_no {L : List Dat} {nm : ByteArray} (h : ∀ (i : Nat) (e : Dat), L[i]? = some e → named nm e = false) : find L nm = -1 := by
  rw [← find_idx]; exact (idx_none h).symm
set_option maxRecDepth 100000 in
set_option maxHeartbeats 8000000 in
theorem specMO (L : List Dat) (A : Option Addr) (n c : Nat) (i : Int) (nm : ByteArray) (w : World) (h : Lies w (.l L) [.slice A n c]) (ht : ∀ x ∈ L, Has tyScript x) (hq : (Dat.l L).bulk ≤ 1099511627776) :
    Calls Try.prog 14 #[.slice A n c, .int .i64 i, .string nm] w (GivesMO (methOf L i nm) w) := by
  have hn := count_bulk h.count hq
  have Z0 := Lib.hid (zb_start w)
  have B0 : Hid (Below w.heap.size w (w.alloc (.cells #[.string ⟨#[]⟩, .slice none 0 0] 29))) := Lib.hid (by go_grown)
  obtain ⟨z0, z1, y0, y1⟩ := Z0.out.two
  have H := Lib.hid h
  have HC := Lib.hid h.count
  have HT := Lib.hid ht
  have HQ := Lib.hid hq
  clear h ht hq
  obtain ⟨v, hv⟩ : ∃ v, inR i 0 ((n : Int) - 1) = v := ⟨_, rfl⟩
  cases v with
  | false =>
    have HN : Hid (methOf L i nm = noMO) := Lib.hid (methOf_out (by rw [HC.out]; exact hv))
    have HV := Lib.hid hv
    clear hv
    go_enter Try.func14, Try.ntmps14
    go_wp2_with fail
    refine (specInR i 0 ((n : Int) - 1) _).mono ?_
    rintro e w2 ⟨rfl, rfl⟩
    rw [HV.out]
    go_wp2_with fail
    refine bodyPost_ret (v := .tuple #[.agg #[.string ⟨#[]⟩, .slice none 0 0], .bool false]) (by simp [results, Try.results14, go_sem, z0, z1]; try rfl) rfl ?_
    exact GivesMO.none_ HN.out (by go_grown)
  | true =>
    have hin : 0 ≤ i ∧ i ≤ (n : Int) - 1 := by simpa [inR] using hv
    obtain ⟨k, rfl⟩ : ∃ k : Nat, i = k := ⟨i.toNat, by omega⟩
    have hk : k < n := by omega
    have HV := Lib.hid hv
    clear hv
    obtain ⟨b, off, d, xs, rfl, hbw, hzi, hlie, hlen, hcell⟩ := (H.out.below B0.out).elem (fun x hx => (HT.out x hx).width) hk
    obtain ⟨f0, L1, A1, n1, c1, hd, rfl, hf0, hl1, ht1, hm1⟩ := invScript (HT.out d (List.mem_of_getElem? hzi)) hlie
    have r0 : (w.alloc (.cells #[.string ⟨#[]⟩, .slice none 0 0] 29)).cell? ⟨b, off + k * 2, none⟩ = some (.string f0) := hcell 0 _ rfl
    have r1 : (w.alloc (.cells #[.string ⟨#[]⟩, .slice none 0 0] 29)).cell? ⟨b, off + k * 2 + 1, none⟩ = some (.slice A1 n1 c1) := hcell 1 _ rfl
    have HM : Hid (methOf L (k : Int) nm = pick L1 (find L1 nm)) := Lib.hid (by rw [methOf_in hzi, hd]; rfl)
    have HQ1 := Lib.hid (code_bulk hd (elem_bulk hzi HQ.out))
    have HL1 := Lib.hid hl1
    have HT1 := Lib.hid ht1
    have hk0 : (0 : Int) ≤ k := by omega
    have hk1 : (k : Int) < n := by omega
    clear hzi hlie hcell hl1 ht1 hd hin
    go_enter Try.func14, Try.ntmps14
    go_wp2_with fail
    refine (specInR (k : Int) 0 ((n : Int) - 1) _).mono ?_
    rintro e w2 ⟨rfl, rfl⟩
    rw [HV.out]
    go_wp2_with fail
    go_loop [8] (fun jv => ∃ j : Nat, j ≤ n1 ∧ jv = .int .i64 j ∧ (∀ (i : Nat) (e : Dat), i < j → L1[i]? = some e → named nm e = false)) (fun jv => n1 - (intOf jv).toNat)
    case atStart => exact ⟨0, Nat.zero_le _, rfl, fun i e hi => by omega⟩
    case round =>
      obtain ⟨j, hjn, rfl, hno⟩ := hrel
      have HNO := Lib.hid hno
      clear hno
      by_cases hjl : j < n1
      · obtain ⟨b2, off2, m, xs2, rfl, hbw2, hz2, hlie2, hlen2, hcell2⟩ := HL1.out.elem (fun x hx => (HT1.out x hx).width) hjl
        obtain ⟨g0, C, A2, n2, c2, hdm, rfl, hg0, hl2, ht2, hm2⟩ := invMethod (HT1.out _ (List.mem_of_getElem? hz2)) hlie2
        have s0 : (w.alloc (.cells #[.string ⟨#[]⟩, .slice none 0 0] 29)).cell? ⟨b2, off2 + j * 2, none⟩ = some (.string g0) := hcell2 0 _ rfl
        have s1 : (w.alloc (.cells #[.string ⟨#[]⟩, .slice none 0 0] 29)).cell? ⟨b2, off2 + j * 2 + 1, none⟩ = some (.slice A2 n2 c2) := hcell2 1 _ rfl
        have hn2 : n2 ≤ 1099511627776 := count_bulk hl2.count (code_bulk hdm (elem_bulk hz2 HQ1.out))
        have hnm : nameOf m = g0 := by rw [hdm]; rfl
        have hcm : codeOf m = C := by rw [hdm]; rfl
        have HZ := Lib.hid hz2
        have HL2 := Lib.hid hl2
        have HT2 := Lib.hid ht2
        have hj0 : (0 : Int) ≤ j := by omega
        have hj1 : (j : Int) < n1 := by omega
        clear hz2 hlie2 hcell2 hl2 ht2 hdm
        by_cases he : g0 = nm
        · subst he
          have HNN : Hid (methOf L (k : Int) g0 = ⟨g0, C, true⟩) := Lib.hid (by rw [HM.out, find_val HNO.out HZ.out (named_yes hnm).symm, pick_at HZ.out, hnm, hcm])
          clear hnm hcm
          go_wp2_with fail
          refine (specCopy g0 C A2 n2 c2 _ HL2.out HT2.out hn2).mono ?_
          rintro e w3 ⟨A3, n3, c3, rfl, hO, hb3⟩
          have HO := Lib.hid hO
          have Z3 := Lib.hid (Z0.out.below hb3)
          have B3 := Lib.hid (B0.out.trans (hb3.mono B0.out.size))
          have hlt2 : w.heap.size < (w.alloc (.cells #[.string ⟨#[]⟩, .slice none 0 0] 29)).heap.size := by simp
          clear hO hb3 s0 s1 z0 z1 y0 y1 r0 r1
          obtain ⟨z0, z1, y0, y1⟩ := Z3.out.two
          go_wp2_with fail
          have q : Box w.heap.size [.string g0, .slice A3 n3 c3] ((w3.setCell ⟨w.heap.size, 0, none⟩ (.string g0)).setCell ⟨w.heap.size, 1, none⟩ (.slice A3 n3 c3)) := Z3.out.2.1.two _ _
          have q0 := q.2 0 _ rfl
          have q1 := q.2 1 _ rfl
          have HF := Lib.hid (GivesMO.some_ HNN.out HO.out hlt2 B3.out (.string g0) (.slice A3 n3 c3))
          clear q
          refine bodyPost_ret (v := .tuple #[.agg #[.string g0, .slice A3 n3 c3], .bool true]) (by simp [results, Try.results14, go_sem, q0, q1]; try rfl) rfl ?_
          exact HF.out
        · have he1 := bytes_ne he
          have he2 := bytes_neb he
          have HN : Hid (∀ (i : Nat) (e : Dat), i < j + 1 → L1[i]? = some e → named nm e = false) := Lib.hid (fun i e hi hie => by
            by_cases hij : i < j
            · exact HNO.out i e hij hie
            · obtain rfl : i = j := by omega
              rw [HZ.out] at hie
              obtain rfl := Option.some.inj hie
              exact (named_no (by rw [hnm]; exact he)).symm)
          clear he hnm hcm
          go_wp2_with fail
          go_round
          case rel => exact ⟨j + 1, by omega, by go_num, HN.out⟩
          case measure => simp [intOf]; omega
      · have HN : Hid (methOf L (k : Int) nm = noMO) := Lib.hid (by rw [HM.out, find_val_no (fun i e hie => HNO.out i e (by have h1 := HL1.out.count; have := (List.getElem?_eq_some_iff.1 hie).1; omega) hie), pick_no])
        go_wp2_with fail
        refine bodyPost_ret (v := .tuple #[.agg #[.string ⟨#[]⟩, .slice none 0 0], .bool false]) (by simp [results, Try.results14, go_sem, z0, z1]; try rfl) rfl ?_
        exact GivesMO.none_ HN.out (by go_grown)
end Go.Proofs.Ytaepconmjmcbdaa
