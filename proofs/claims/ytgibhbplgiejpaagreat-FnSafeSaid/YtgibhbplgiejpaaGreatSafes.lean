/- Chapter 8: AreSafe, both sides. -/
import Derived.Test.YtgibhbplgiejpaaGreatSafe
import Derived.Test.YtgibhbplgiejpaaGreatDisA
namespace Go.Proofs.YtgibhbplgiejpaaGreat
open Go.RowKit
set_option linter.unusedVariables false
set_option linter.unusedSimpArgs false
def safeS (s : Dat) : Bool := (codeOf s).all safeD
def safesD (L : List Dat) : Bool := L.all safeS && isLib L
theorem low_cell8 {W w : World} (h : Below W.heap.size W w) {b o : Nat} (hb : b < W.heap.size) {v : Value} (hc : W.cell? ⟨b, o, none⟩ = some v) : w.cell? ⟨b, o, none⟩ = some v := (h.cell (p := ⟨b, o, none⟩) hb).trans hc
theorem safes_no {L : List Dat} {i k : Nat} {s m : Dat} (hs : L[i]? = some s) (hm : (codeOf s)[k]? = some m) (h : safeD m = false) : false = safesD L := by
  have h1 : safeS s = false := List.all_eq_false.2 ⟨m, List.mem_of_getElem? hm, by rw [h]; simp⟩
  have h2 : L.all safeS = false := List.all_eq_false.2 ⟨s, List.mem_of_getElem? hs, by rw [h1]; simp⟩
  rw [safesD, h2]; rfl
theorem safes_lib {L : List Dat} (h : isLib L = false) : false = safesD L := by rw [safesD, h, Bool.and_false]
theorem safes_all {L : List Dat} {n : Nat} (hn : L.length = n) (h : ∀ (j : Nat) (s : Dat), j < n → L[j]? = some s → safeS s = true) : isLib L = safesD L := by
  have h2 : L.all safeS = true := List.all_eq_true.2 fun s hs => by
    obtain ⟨j, hj⟩ := List.mem_iff_getElem?.1 hs
    exact h j s (by rw [← hn]; exact (List.getElem?_eq_some_iff.1 hj).1) hj
  rw [safesD, h2, Bool.true_and]
theorem safeS_yes {s : Dat} {m : Nat} (hm : (codeOf s).length = m) (h : ∀ (j : Nat) (d : Dat), j < m → (codeOf s)[j]? = some d → safeD d = true) : safeS s = true :=
  List.all_eq_true.2 fun d hd => by
    obtain ⟨j, hj⟩ := List.mem_iff_getElem?.1 hd
    exact h j d (by rw [← hm]; exact (List.getElem?_eq_some_iff.1 hj).1) hj
theorem implSafeD (d : Dat) (f0 : ByteArray) (L1 : List Dat) (A1 : Option Addr) (n1 c1 : Nat) (w : World) (hd : d = .r [.s f0, .l L1]) (h : Lies w (.l L1) [.slice A1 n1 c1]) (ht : ∀ x ∈ L1, Has tyInstr x) (hq : d.bulk ≤ 1099511627776) : Calls Tryz.prog 13 #[.agg #[.string f0, .slice A1 n1 c1]] w (GivesBool (safeD d) w) := by
  subst hd
  exact implSafe f0 L1 A1 n1 c1 w h ht hq
theorem specSafeD (d : Dat) (f0 : ByteArray) (L1 : List Dat) (A1 : Option Addr) (n1 c1 : Nat) (w : World) (hd : d = .r [.s f0, .l L1]) (h : Lies w (.l L1) [.slice A1 n1 c1]) (ht : ∀ x ∈ L1, Has tyInstr x) (hq : d.bulk ≤ 1099511627776) : Calls Tryz.prog 45 #[.agg #[.string f0, .slice A1 n1 c1]] w (GivesBool (safeD d) w) := by
  subst hd
  exact specSafe f0 L1 A1 n1 c1 w h ht hq
set_option maxRecDepth 100000 in
set_option maxHeartbeats 8000000 in
theorem implSafes (L : List Dat) (A : Option Addr) (n c : Nat) (w : World) (h : Lies w (.l L) [.slice A n c]) (ht : ∀ x ∈ L, Has tyScript x) (hq : (Dat.l L).bulk ≤ 1099511627776) :
    Calls Tryz.prog 15 #[.slice A n c] w (GivesBool (safesD L) w) := by
  have hn : n ≤ 1099511627776 := by have := h.count; simp only [Dat.bulk] at hq; omega
  have hbk : bulkAll L ≤ 1099511627776 := by simp only [Dat.bulk] at hq; omega
  have H := Lib.hid h
  have HT := Lib.hid ht
  have HC := Lib.hid h.count
  have HQQ := Lib.hid hq
  clear h ht hq
  obtain ⟨v, hv⟩ : ∃ v, isLib L = v := ⟨_, rfl⟩
  have HV := Lib.hid hv
  clear hv
  cases v with
  | false =>
    have HE := Lib.hid (safes_lib HV.out)
    go_enter Tryz.func15, Tryz.ntmps15
    go_wp2_with fail
    refine (implLib L A n c _ H.out HT.out (by omega)).mono ?_
    rintro e w1 ⟨rfl, hb1⟩
    rw [HV.out]
    have HB1 := Lib.hid hb1
    clear hb1
    go_wp2_with fail
    go_ret
    exact GivesBool.of HE.out HB1.out
  | true =>
    go_enter Tryz.func15, Tryz.ntmps15
    go_wp2_with fail
    refine (implLib L A n c _ H.out HT.out (by omega)).mono ?_
    rintro e w1 ⟨rfl, hb1⟩
    rw [HV.out]
    have HB1 := Lib.hid hb1
    clear hb1
    go_wp2_with fail
    go_loopw [12] (fun iv wr => ∃ i : Nat, i ≤ n ∧ iv = .int .i64 i ∧ (∀ (j : Nat) (s : Dat), j < i → L[j]? = some s → safeS s = true) ∧ Below w.heap.size w wr) (fun iv _ => n - (intOf iv).toNat)
    case atStart => exact ⟨0, Nat.zero_le _, rfl, fun j s hj => by omega, HB1.out⟩
    case round =>
      rename World => wo
      obtain ⟨i, hin, rfl, hok, hb⟩ := hrel
      have HOK := Lib.hid hok
      have HB := Lib.hid hb
      clear hok hb
      by_cases hlt : i < n
      · obtain ⟨b, off, d, xs, rfl, hbw, hzi, hlie, hlen, hcell⟩ := H.out.elem (fun x hx => (HT.out x hx).width) hlt
        obtain ⟨g0, L1, A1, n1, c1, hd, rfl, hg0, hl1, ht1, hm1⟩ := invScript (HT.out d (List.mem_of_getElem? hzi)) hlie
        have hqd : d.bulk ≤ 1099511627776 := by have h1 := bulk_mem (List.mem_of_getElem? hzi); omega
        have hbk1 : bulkAll L1 ≤ 1099511627776 := by rw [hd] at hqd; simp only [Dat.bulk, bulkAll] at hqd; omega
        have HR0 := Lib.hid (hcell 0 _ rfl)
        have HR1 := Lib.hid (hcell 1 _ rfl)
        have HCD : Hid (codeOf d = L1) := Lib.hid (by rw [hd]; rfl)
        have HZ := Lib.hid hzi
        have HL1 := Lib.hid hl1
        have HT1 := Lib.hid ht1
        have HN1 := Lib.hid hl1.count
        have B1 : Hid (∀ o, Below w.heap.size w (wo.alloc o)) := Lib.hid (fun o => HB.out.alloc HB.out.size o)
        clear hzi hcell hlie hd hl1 ht1
        have r0 : wo.cell? ⟨b, off + i * 2, none⟩ = some (.string g0) := low_cell8 HB.out hbw HR0.out
        have r1 : wo.cell? ⟨b, off + i * 2 + 1, none⟩ = some (.slice A1 n1 c1) := low_cell8 HB.out hbw HR1.out
        go_wp2_with fail
        go_loopw [19] (fun kv wr => ∃ k : Nat, k ≤ n1 ∧ kv = .int .i64 k ∧ (∀ (j : Nat) (m : Dat), j < k → L1[j]? = some m → safeD m = true) ∧ Below w.heap.size w wr) (fun kv _ => n1 - (intOf kv).toNat)
        case atStart => exact ⟨0, Nat.zero_le _, rfl, fun j s hj => by omega, (B1.out _)⟩
        case round =>
          obtain ⟨k, hkm, rfl, hno, hbk2⟩ := hrel
          have HNO := Lib.hid hno
          have HBK := Lib.hid hbk2
          clear hno hbk2
          skip
          by_cases hlk : k < n1
          · obtain ⟨b3, off3, m, xs, rfl, hbw3, hzm, hlie, hlen, hcell⟩ := HL1.out.elem (fun x hx => (HT1.out x hx).width) hlk
            obtain ⟨g1, L2, A2, n2, c2, hd, rfl, hg1, hl2, ht2, hm2⟩ := invMethod (HT1.out m (List.mem_of_getElem? hzm)) hlie
            have s0 : wr.cell? ⟨b3, off3 + k * 2, none⟩ = some (.string g1) := low_cell8 HBK.out hbw3 (hcell 0 _ rfl)
            have s1 : wr.cell? ⟨b3, off3 + k * 2 + 1, none⟩ = some (.slice A2 n2 c2) := low_cell8 HBK.out hbw3 (hcell 1 _ rfl)
            have hqm : m.bulk ≤ 1099511627776 := by have h1 := bulk_mem (List.mem_of_getElem? hzm); omega
            have B3 : Hid (∀ o, Below w.heap.size w (wr.alloc o)) := Lib.hid (fun o => HBK.out.alloc HBK.out.size o)
            have HD := Lib.hid hd
            have HZM := Lib.hid hzm
            have HL2 := Lib.hid hl2
            have HT2 := Lib.hid ht2
            clear hzm hlie hcell hd hl2 ht2
            obtain ⟨q, hq⟩ : ∃ q, safeD m = q := ⟨_, rfl⟩
            have HQ := Lib.hid hq
            clear hq
            go_wp2_with fail
            refine (implSafeD m g1 L2 A2 n2 c2 _ HD.out (HL2.out.below (B3.out _)) HT2.out hqm).mono ?_
            rintro e w3 ⟨rfl, hb3⟩
            rw [HQ.out]
            have HB3 := Lib.hid (((B3.out _)).trans (hb3.mono ((B3.out _)).size))
            clear hb3 s0 s1
            cases q with
            | false =>
              have HN := Lib.hid (safes_no HZ.out (by rw [HCD.out]; exact HZM.out) HQ.out)
              go_wp2_with fail
              go_ret
              exact GivesBool.of HN.out HB3.out
            | true =>
              have HN : Hid (∀ (j : Nat) (d : Dat), j < k + 1 → L1[j]? = some d → safeD d = true) := Lib.hid (fun j d hj hnm => by
                by_cases hjk : j < k
                · exact HNO.out j d hjk hnm
                · obtain rfl : j = k := by omega
                  rw [HZM.out] at hnm
                  obtain rfl := Option.some.inj hnm
                  exact HQ.out)
              go_wp2_with fail
              go_roundw
              case rel => exact ⟨k + 1, by omega, by go_num, HN.out, HB3.out⟩
              case measure => (simp [intOf]; try omega)
          · have hkk : k = n1 := by omega
            subst hkk
            have HS := Lib.hid (safeS_yes (s := d) (m := k) (by rw [HCD.out]; exact HN1.out) (by rw [HCD.out]; exact HNO.out))
            have HN : Hid (∀ (j : Nat) (s : Dat), j < i + 1 → L[j]? = some s → safeS s = true) := Lib.hid (fun j s hj hs => by
              by_cases hji : j < i
              · exact HOK.out j s hji hs
              · obtain rfl : j = i := by omega
                rw [HZ.out] at hs
                obtain rfl := Option.some.inj hs
                exact HS.out)
            go_wp2_with fail
            go_roundw
            case rel => exact ⟨i + 1, by omega, by go_num, HN.out, HBK.out⟩
            case measure => (simp [intOf]; try omega)
      · have hE : i = n := by omega
        subst hE
        have HE := Lib.hid (safes_all HC.out HOK.out)
        rw [HV.out] at HE
        go_wp2_with fail
        go_ret
        exact GivesBool.of HE.out HB.out

set_option maxRecDepth 100000 in
set_option maxHeartbeats 8000000 in
theorem specSafes (L : List Dat) (A : Option Addr) (n c : Nat) (w : World) (h : Lies w (.l L) [.slice A n c]) (ht : ∀ x ∈ L, Has tyScript x) (hq : (Dat.l L).bulk ≤ 1099511627776) :
    Calls Tryz.prog 16 #[.slice A n c] w (GivesBool (safesD L) w) := by
  have hn : n ≤ 1099511627776 := by have := h.count; simp only [Dat.bulk] at hq; omega
  have hbk : bulkAll L ≤ 1099511627776 := by simp only [Dat.bulk] at hq; omega
  have H := Lib.hid h
  have HT := Lib.hid ht
  have HC := Lib.hid h.count
  have HQQ := Lib.hid hq
  clear h ht hq
  obtain ⟨v, hv⟩ : ∃ v, isLib L = v := ⟨_, rfl⟩
  have HV := Lib.hid hv
  clear hv
  go_enter Tryz.func16, Tryz.ntmps16
  go_wp2_with fail
  go_loopw [3] (fun iv wr => ∃ i : Nat, i ≤ n ∧ iv = .int .i64 i ∧ (∀ (j : Nat) (s : Dat), j < i → L[j]? = some s → safeS s = true) ∧ Below w.heap.size w wr) (fun iv _ => n - (intOf iv).toNat)
  case atStart => exact ⟨0, Nat.zero_le _, rfl, fun j s hj => by omega, Below.refl _ _⟩
  case round =>
    rename World => wo
    obtain ⟨i, hin, rfl, hok, hb⟩ := hrel
    have HOK := Lib.hid hok
    have HB := Lib.hid hb
    clear hok hb
    by_cases hlt : i < n
    · obtain ⟨b, off, d, xs, rfl, hbw, hzi, hlie, hlen, hcell⟩ := H.out.elem (fun x hx => (HT.out x hx).width) hlt
      obtain ⟨g0, L1, A1, n1, c1, hd, rfl, hg0, hl1, ht1, hm1⟩ := invScript (HT.out d (List.mem_of_getElem? hzi)) hlie
      have hqd : d.bulk ≤ 1099511627776 := by have h1 := bulk_mem (List.mem_of_getElem? hzi); omega
      have hbk1 : bulkAll L1 ≤ 1099511627776 := by rw [hd] at hqd; simp only [Dat.bulk, bulkAll] at hqd; omega
      have HR0 := Lib.hid (hcell 0 _ rfl)
      have HR1 := Lib.hid (hcell 1 _ rfl)
      have HCD : Hid (codeOf d = L1) := Lib.hid (by rw [hd]; rfl)
      have HZ := Lib.hid hzi
      have HL1 := Lib.hid hl1
      have HT1 := Lib.hid ht1
      have HN1 := Lib.hid hl1.count
      have B1 : Hid (∀ o, Below w.heap.size w (wo.alloc o)) := Lib.hid (fun o => HB.out.alloc HB.out.size o)
      clear hzi hcell hlie hd hl1 ht1
      skip
      go_wp2_with fail
      go_loopw [4] (fun kv wr => ∃ k : Nat, k ≤ n1 ∧ kv = .int .i64 k ∧ (∀ (j : Nat) (m : Dat), j < k → L1[j]? = some m → safeD m = true) ∧ Below w.heap.size w wr) (fun kv _ => n1 - (intOf kv).toNat)
      case atStart => exact ⟨0, Nat.zero_le _, rfl, fun j s hj => by omega, HB.out⟩
      case round =>
        obtain ⟨k, hkm, rfl, hno, hbk2⟩ := hrel
        have HNO := Lib.hid hno
        have HBK := Lib.hid hbk2
        clear hno hbk2
        have r1 : wr.cell? ⟨b, off + i * 2 + 1, none⟩ = some (.slice A1 n1 c1) := low_cell8 HBK.out hbw HR1.out
        by_cases hlk : k < n1
        · obtain ⟨b3, off3, m, xs, rfl, hbw3, hzm, hlie, hlen, hcell⟩ := HL1.out.elem (fun x hx => (HT1.out x hx).width) hlk
          obtain ⟨g1, L2, A2, n2, c2, hd, rfl, hg1, hl2, ht2, hm2⟩ := invMethod (HT1.out m (List.mem_of_getElem? hzm)) hlie
          have s0 : wr.cell? ⟨b3, off3 + k * 2, none⟩ = some (.string g1) := low_cell8 HBK.out hbw3 (hcell 0 _ rfl)
          have s1 : wr.cell? ⟨b3, off3 + k * 2 + 1, none⟩ = some (.slice A2 n2 c2) := low_cell8 HBK.out hbw3 (hcell 1 _ rfl)
          have hqm : m.bulk ≤ 1099511627776 := by have h1 := bulk_mem (List.mem_of_getElem? hzm); omega
          have B3 : Hid (∀ o, Below w.heap.size w (wr.alloc o)) := Lib.hid (fun o => HBK.out.alloc HBK.out.size o)
          have HD := Lib.hid hd
          have HZM := Lib.hid hzm
          have HL2 := Lib.hid hl2
          have HT2 := Lib.hid ht2
          clear hzm hlie hcell hd hl2 ht2
          obtain ⟨q, hq⟩ : ∃ q, safeD m = q := ⟨_, rfl⟩
          have HQ := Lib.hid hq
          clear hq
          go_wp2_with fail
          refine (specSafeD m g1 L2 A2 n2 c2 _ HD.out (HL2.out.below HBK.out) HT2.out hqm).mono ?_
          rintro e w3 ⟨rfl, hb3⟩
          rw [HQ.out]
          have HB3 := Lib.hid ((HBK.out).trans (hb3.mono (HBK.out).size))
          clear hb3 s0 s1
          cases q with
          | false =>
            have HN := Lib.hid (safes_no HZ.out (by rw [HCD.out]; exact HZM.out) HQ.out)
            go_wp2_with fail
            go_ret
            exact GivesBool.of HN.out HB3.out
          | true =>
            have HN : Hid (∀ (j : Nat) (d : Dat), j < k + 1 → L1[j]? = some d → safeD d = true) := Lib.hid (fun j d hj hnm => by
              by_cases hjk : j < k
              · exact HNO.out j d hjk hnm
              · obtain rfl : j = k := by omega
                rw [HZM.out] at hnm
                obtain rfl := Option.some.inj hnm
                exact HQ.out)
            go_wp2_with fail
            go_roundw
            case rel => exact ⟨k + 1, by omega, by go_num, HN.out, HB3.out⟩
            case measure => (simp [intOf]; try omega)
        · have hkk : k = n1 := by omega
          subst hkk
          have HS := Lib.hid (safeS_yes (s := d) (m := k) (by rw [HCD.out]; exact HN1.out) (by rw [HCD.out]; exact HNO.out))
          have HN : Hid (∀ (j : Nat) (s : Dat), j < i + 1 → L[j]? = some s → safeS s = true) := Lib.hid (fun j s hj hs => by
            by_cases hji : j < i
            · exact HOK.out j s hji hs
            · obtain rfl : j = i := by omega
              rw [HZ.out] at hs
              obtain rfl := Option.some.inj hs
              exact HS.out)
          go_wp2_with fail
          go_roundw
          case rel => exact ⟨i + 1, by omega, by go_num, HN.out, HBK.out⟩
          case measure => (simp [intOf]; try omega)
    · have hE : i = n := by omega
      subst hE
      have HE := Lib.hid (safes_all HC.out HOK.out)
      go_wp2_with fail
      refine (specLib L A i c _ (H.out.below HB.out) HT.out HQQ.out).mono ?_
      rintro e w1 ⟨rfl, hb1⟩
      have HB1 := Lib.hid (HB.out.trans (hb1.mono HB.out.size))
      clear hb1
      go_wp2_with fail
      go_ret
      exact GivesBool.of HE.out HB1.out

end Go.Proofs.YtgibhbplgiejpaaGreat
