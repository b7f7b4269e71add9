/- Chapter 8: AreKnown, both sides. -/
import Derived.Test.YtgibhbplgiejpaaGreatMadeS
import Derived.Test.YtgibhbplgiejpaaGreatScrI
import Derived.Test.YtgibhbplgiejpaaGreatSpecSA
namespace Go.Proofs.YtgibhbplgiejpaaGreat
open Go.RowKit
set_option linter.unusedVariables false
set_option linter.unusedSimpArgs false
def foundD (L : List Dat) (nm : ByteArray) : Bool := decide (0 ≤ find L nm)
def knownS (L : List Dat) (s : Dat) : Bool := (madeL (codeOf s)).all (foundD L)
def knownD (L : List Dat) : Bool := L.all (knownS L)
theorem known_yes {L : List Dat} {n : Nat} (hn : L.length = n) (h : ∀ (j : Nat) (s : Dat), j < n → L[j]? = some s → knownS L s = true) : true = knownD L := by
  refine (List.all_eq_true.2 fun s hs => ?_).symm
  obtain ⟨j, hj⟩ := List.mem_iff_getElem?.1 hs
  exact h j s (by rw [← hn]; exact (List.getElem?_eq_some_iff.1 hj).1) hj
theorem known_no {L : List Dat} {i k : Nat} {s : Dat} {nm : ByteArray} (hs : L[i]? = some s) (hnm : (madeL (codeOf s))[k]? = some nm) (h : find L nm < 0) : false = knownD L := by
  refine (List.all_eq_false.2 ⟨s, List.mem_of_getElem? hs, ?_⟩).symm
  have h1 : knownS L s = false := List.all_eq_false.2 ⟨nm, List.mem_of_getElem? hnm, by simp [foundD]; omega⟩
  rw [h1]; simp
theorem knownS_yes {L : List Dat} {s : Dat} {m : Nat} (hm : (madeL (codeOf s)).length = m) (h : ∀ (j : Nat) (nm : ByteArray), j < m → (madeL (codeOf s))[j]? = some nm → 0 ≤ find L nm) : knownS L s = true := by
  refine List.all_eq_true.2 fun nm hnm => ?_
  obtain ⟨j, hj⟩ := List.mem_iff_getElem?.1 hnm
  exact decide_eq_true (h j nm (by rw [← hm]; exact (List.getElem?_eq_some_iff.1 hj).1) hj)
theorem implMadeD (d : Dat) (f0 : ByteArray) (M : List Dat) (A : Option Addr) (n c : Nat) (w : World) (hd : d = .r [.s f0, .l M]) (h : Lies w (.l M) [.slice A n c]) (ht : ∀ x ∈ M, Has tyMethod x) (hq : d.bulk ≤ 1099511627776) :
    Calls Tryz.prog 12 #[.agg #[.string f0, .slice A n c]] w (GivesNames (madeL (codeOf d)) w) := by
  subst hd
  exact implMade f0 M A n c w h ht hq
theorem specMadeD (d : Dat) (f0 : ByteArray) (M : List Dat) (A : Option Addr) (n c : Nat) (w : World) (hd : d = .r [.s f0, .l M]) (h : Lies w (.l M) [.slice A n c]) (ht : ∀ x ∈ M, Has tyMethod x) (hq : d.bulk ≤ 1099511627776) :
    Calls Tryz.prog 17 #[.agg #[.string f0, .slice A n c]] w (GivesNames (madeL (codeOf d)) w) := by
  subst hd
  exact specMade f0 M A n c w h ht hq

set_option maxRecDepth 100000 in
set_option maxHeartbeats 8000000 in
theorem implKnown (L : List Dat) (A : Option Addr) (n c : Nat) (w : World) (h : Lies w (.l L) [.slice A n c]) (ht : ∀ x ∈ L, Has tyScript x) (hq : (Dat.l L).bulk ≤ 1099511627776) :
    Calls Tryz.prog 18 #[.slice A n c] w (GivesBool (knownD L) w) := by
  have hn : n ≤ 1099511627776 := by have := h.count; simp only [Dat.bulk] at hq; omega
  have hbk : bulkAll L ≤ 1099511627776 := by simp only [Dat.bulk] at hq; omega
  have H := Lib.hid h
  have HT := Lib.hid ht
  have HC := Lib.hid h.count
  clear h ht
  go_enter Tryz.func18, Tryz.ntmps18
  go_wp2
  go_loopw [9] (fun iv wr => ∃ i : Nat, i ≤ n ∧ iv = .int .i64 i ∧ (∀ (j : Nat) (s : Dat), j < i → L[j]? = some s → knownS L s = true) ∧ Below w.heap.size w wr) (fun iv _ => n - (intOf iv).toNat)
  case atStart => exact ⟨0, Nat.zero_le _, rfl, fun j s hj => by omega, Below.refl _ _⟩
  case round =>
    rename World => wo
    obtain ⟨i, hin, rfl, hok, hb⟩ := hrel
    have HOK := Lib.hid hok
    have HB := Lib.hid hb
    clear hok hb
    by_cases hlt : i < n
    · obtain ⟨b, off, d, xs, rfl, hbw, hzi, hlie, hlen, hcell⟩ := H.out.elem (fun x hx => (HT.out x hx).width) hlt
      obtain ⟨g0, L1, A1, n1, c1, hd, rfl, hg0, hl1, ht1, hm1⟩ := invScript (HT.out d (List.mem_of_getElem? hzi)) hlie
      have r0 : wo.cell? ⟨b, off + i * 2, none⟩ = some (.string g0) := low_cell HB.out hbw (hcell 0 _ rfl)
      have r1 : wo.cell? ⟨b, off + i * 2 + 1, none⟩ = some (.slice A1 n1 c1) := low_cell HB.out hbw (hcell 1 _ rfl)
      have hqd : d.bulk ≤ 1099511627776 := by have h1 := bulk_mem (List.mem_of_getElem? hzi); omega
      have HZ := Lib.hid hzi
      have HD := Lib.hid hd
      have HL1 := Lib.hid hl1
      have HT1 := Lib.hid ht1
      have B1 : Hid (∀ o, Below w.heap.size w (wo.alloc o)) := Lib.hid (fun o => HB.out.alloc HB.out.size o)
      clear hzi hcell hlie hd hl1 ht1
      go_wp2_with fail
      refine (implMadeD d g0 L1 A1 n1 c1 _ HD.out (HL1.out.below (B1.out _)) HT1.out hqd).mono ?_
      rintro e w2 ⟨A2, m2, c2, rfl, hO, hb2⟩
      have HB2 := Lib.hid (((B1.out _)).trans (hb2.mono ((B1.out _)).size))
      have HNL := Lib.hid hO.lies
      have HM : Hid ((madeL (codeOf d)).length = m2) := Lib.hid (by have h1 := hO.lies.count; rw [List.length_map] at h1; exact h1)
      have hm2 : m2 ≤ 1099511627776 := by
        have h1 := HM.out
        have h2 := once_len (namesM (codeOf d)) []
        have h3 := namesM_len (codeOf d)
        have h4 := HD.out
        rw [h4] at h1 h2 h3
        simp only [codeOf, List.length_nil] at h1 h2 h3
        have h5 : (madeL L1).length = (onceL [] (namesM L1)).length := rfl
        rw [h4] at hqd
        simp only [Dat.bulk, bulkAll] at hqd
        omega
      clear hO hb2 r0 r1 B1
      go_wp2_with fail
      go_loopw [16] (fun kv wr => ∃ k : Nat, k ≤ m2 ∧ kv = .int .i64 k ∧ (∀ (j : Nat) (nm : ByteArray), j < k → (madeL (codeOf d))[j]? = some nm → 0 ≤ find L nm) ∧ Below w2.heap.size w2 wr) (fun kv _ => m2 - (intOf kv).toNat)
      case atStart => exact ⟨0, Nat.zero_le _, rfl, fun j s hj => by omega, Below.refl _ _⟩
      case round =>
        obtain ⟨k, hkm, rfl, hno, hbk2⟩ := hrel
        have HNO := Lib.hid hno
        have HBK := Lib.hid hbk2
        clear hno hbk2
        by_cases hlk : k < m2
        · obtain ⟨b3, off3, v, rfl, hb3, hv, hc3⟩ := strs_at (HNL.out.below HBK.out) hlk
          have HV := Lib.hid hv
          have HBW := Lib.hid (HB2.out.trans (HBK.out.mono HB2.out.size))
          clear hv
          obtain ⟨r, hr⟩ : ∃ r, find L v = r := ⟨_, rfl⟩
          have HR := Lib.hid hr
          clear hr
          go_wp2_with fail
          refine (implFind L _ n c v _ (H.out.below HBW.out) HT.out (by omega)).mono ?_
          rintro e w3 ⟨rfl, hb3⟩
          rw [HR.out]
          have HBW3 := Lib.hid (HBW.out.trans (hb3.mono HBW.out.size))
          have HBK3 := Lib.hid (HBK.out.trans (hb3.mono HBK.out.size))
          clear hb3
          by_cases h0 : r < 0
          · have HN := Lib.hid (known_no HZ.out HV.out (by rw [HR.out]; exact h0))
            go_wp2_with fail
            go_ret
            exact GivesBool.of HN.out HBW3.out
          · have HN : Hid (∀ (j : Nat) (nm : ByteArray), j < k + 1 → (madeL (codeOf d))[j]? = some nm → 0 ≤ find L nm) := Lib.hid (fun j nm hj hnm => by
              by_cases hjk : j < k
              · exact HNO.out j nm hjk hnm
              · obtain rfl : j = k := by omega
                rw [HV.out] at hnm
                obtain rfl := Option.some.inj hnm
                rw [HR.out]; omega)
            go_wp2_with fail
            go_roundw
            case rel => exact ⟨k + 1, by omega, by go_num, HN.out, HBK3.out⟩
            case measure => (simp [intOf]; try omega)
        · have hkk : k = m2 := by omega
          subst hkk
          have HS := Lib.hid (knownS_yes HM.out HNO.out)
          have HBW := Lib.hid (HB2.out.trans (HBK.out.mono HB2.out.size))
          have HN : Hid (∀ (j : Nat) (s : Dat), j < i + 1 → L[j]? = some s → knownS L s = true) := Lib.hid (fun j s hj hs => by
            by_cases hji : j < i
            · exact HOK.out j s hji hs
            · obtain rfl : j = i := by omega
              rw [HZ.out] at hs
              obtain rfl := Option.some.inj hs
              exact HS.out)
          go_wp2_with fail
          go_roundw
          case rel => exact ⟨i + 1, by omega, by go_num, HN.out, HBW.out⟩
          case measure => (simp [intOf]; try omega)
    · have hE : i = n := by omega
      subst hE
      have HE := Lib.hid (known_yes HC.out HOK.out)
      go_wp2_with fail
      go_ret
      exact GivesBool.of HE.out HB.out

set_option maxRecDepth 100000 in
set_option maxHeartbeats 8000000 in
theorem specKnown (L : List Dat) (A : Option Addr) (n c : Nat) (w : World) (h : Lies w (.l L) [.slice A n c]) (ht : ∀ x ∈ L, Has tyScript x) (hq : (Dat.l L).bulk ≤ 1099511627776) :
    Calls Tryz.prog 19 #[.slice A n c] w (GivesBool (knownD L) w) := by
  have hn : n ≤ 1099511627776 := by have := h.count; simp only [Dat.bulk] at hq; omega
  have hbk : bulkAll L ≤ 1099511627776 := by simp only [Dat.bulk] at hq; omega
  have H := Lib.hid h
  have HT := Lib.hid ht
  have HC := Lib.hid h.count
  clear h ht
  go_enter Tryz.func19, Tryz.ntmps19
  go_wp2
  go_loopw [3] (fun iv wr => ∃ i : Nat, i ≤ n ∧ iv = .int .i64 i ∧ (∀ (j : Nat) (s : Dat), j < i → L[j]? = some s → knownS L s = true) ∧ Below w.heap.size w wr) (fun iv _ => n - (intOf iv).toNat)
  case atStart => exact ⟨0, Nat.zero_le _, rfl, fun j s hj => by omega, Below.refl _ _⟩
  case round =>
    rename World => wo
    obtain ⟨i, hin, rfl, hok, hb⟩ := hrel
    have HOK := Lib.hid hok
    have HB := Lib.hid hb
    clear hok hb
    by_cases hlt : i < n
    · obtain ⟨b, off, d, xs, rfl, hbw, hzi, hlie, hlen, hcell⟩ := H.out.elem (fun x hx => (HT.out x hx).width) hlt
      obtain ⟨g0, L1, A1, n1, c1, hd, rfl, hg0, hl1, ht1, hm1⟩ := invScript (HT.out d (List.mem_of_getElem? hzi)) hlie
      have r0 : wo.cell? ⟨b, off + i * 2, none⟩ = some (.string g0) := low_cell HB.out hbw (hcell 0 _ rfl)
      have r1 : wo.cell? ⟨b, off + i * 2 + 1, none⟩ = some (.slice A1 n1 c1) := low_cell HB.out hbw (hcell 1 _ rfl)
      have hqd : d.bulk ≤ 1099511627776 := by have h1 := bulk_mem (List.mem_of_getElem? hzi); omega
      have HZ := Lib.hid hzi
      have HD := Lib.hid hd
      have HL1 := Lib.hid hl1
      have HT1 := Lib.hid ht1
      have B1 : Hid (∀ o, Below w.heap.size w (wo.alloc o)) := Lib.hid (fun o => HB.out.alloc HB.out.size o)
      clear hzi hcell hlie hd hl1 ht1
      go_wp2_with fail
      refine (specMadeD d g0 L1 A1 n1 c1 _ HD.out (HL1.out.below HB.out) HT1.out hqd).mono ?_
      rintro e w2 ⟨A2, m2, c2, rfl, hO, hb2⟩
      have HB2 := Lib.hid ((HB.out).trans (hb2.mono (HB.out).size))
      have HNL := Lib.hid hO.lies
      have HM : Hid ((madeL (codeOf d)).length = m2) := Lib.hid (by have h1 := hO.lies.count; rw [List.length_map] at h1; exact h1)
      have hm2 : m2 ≤ 1099511627776 := by
        have h1 := HM.out
        have h2 := once_len (namesM (codeOf d)) []
        have h3 := namesM_len (codeOf d)
        have h4 := HD.out
        rw [h4] at h1 h2 h3
        simp only [codeOf, List.length_nil] at h1 h2 h3
        have h5 : (madeL L1).length = (onceL [] (namesM L1)).length := rfl
        rw [h4] at hqd
        simp only [Dat.bulk, bulkAll] at hqd
        omega
      clear hO hb2 r0 r1 B1
      go_wp2_with fail
      go_loopw [5] (fun kv wr => ∃ k : Nat, k ≤ m2 ∧ kv = .int .i64 k ∧ (∀ (j : Nat) (nm : ByteArray), j < k → (madeL (codeOf d))[j]? = some nm → 0 ≤ find L nm) ∧ Below w2.heap.size w2 wr) (fun kv _ => m2 - (intOf kv).toNat)
      case atStart => exact ⟨0, Nat.zero_le _, rfl, fun j s hj => by omega, Below.refl _ _⟩
      case round =>
        obtain ⟨k, hkm, rfl, hno, hbk2⟩ := hrel
        have HNO := Lib.hid hno
        have HBK := Lib.hid hbk2
        clear hno hbk2
        by_cases hlk : k < m2
        · obtain ⟨b3, off3, v, rfl, hb3, hv, hc3⟩ := strs_at (HNL.out.below HBK.out) hlk
          have HV := Lib.hid hv
          have HBW := Lib.hid (HB2.out.trans (HBK.out.mono HB2.out.size))
          clear hv
          obtain ⟨r, hr⟩ : ∃ r, find L v = r := ⟨_, rfl⟩
          have HR := Lib.hid hr
          clear hr
          go_wp2_with fail
          refine (specFind L _ n c v _ (H.out.below HBW.out) HT.out (by omega)).mono ?_
          rintro e w3 ⟨rfl, hb3⟩
          rw [HR.out]
          have HBW3 := Lib.hid (HBW.out.trans (hb3.mono HBW.out.size))
          have HBK3 := Lib.hid (HBK.out.trans (hb3.mono HBK.out.size))
          clear hb3
          by_cases h0 : r < 0
          · have HN := Lib.hid (known_no HZ.out HV.out (by rw [HR.out]; exact h0))
            go_wp2_with fail
            go_ret
            exact GivesBool.of HN.out HBW3.out
          · have HN : Hid (∀ (j : Nat) (nm : ByteArray), j < k + 1 → (madeL (codeOf d))[j]? = some nm → 0 ≤ find L nm) := Lib.hid (fun j nm hj hnm => by
              by_cases hjk : j < k
              · exact HNO.out j nm hjk hnm
              · obtain rfl : j = k := by omega
                rw [HV.out] at hnm
                obtain rfl := Option.some.inj hnm
                rw [HR.out]; omega)
            go_wp2_with fail
            go_roundw
            case rel => exact ⟨k + 1, by omega, by go_num, HN.out, HBK3.out⟩
            case measure => (simp [intOf]; try omega)
        · have hkk : k = m2 := by omega
          subst hkk
          have HS := Lib.hid (knownS_yes HM.out HNO.out)
          have HBW := Lib.hid (HB2.out.trans (HBK.out.mono HB2.out.size))
          have HN : Hid (∀ (j : Nat) (s : Dat), j < i + 1 → L[j]? = some s → knownS L s = true) := Lib.hid (fun j s hj hs => by
            by_cases hji : j < i
            · exact HOK.out j s hji hs
            · obtain rfl : j = i := by omega
              rw [HZ.out] at hs
              obtain rfl := Option.some.inj hs
              exact HS.out)
          go_wp2_with fail
          go_roundw
          case rel => exact ⟨i + 1, by omega, by go_num, HN.out, HBW.out⟩
          case measure => (simp [intOf]; try omega)
    · have hE : i = n := by omega
      subst hE
      have HE := Lib.hid (known_yes HC.out HOK.out)
      go_wp2_with fail
      go_ret
      exact GivesBool.of HE.out HB.out
end Go.Proofs.YtgibhbplgiejpaaGreat
