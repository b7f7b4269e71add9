/- The reference's chapter 6: FindScript, Ends, IsMethod.
   The reference's chapter 6: IsScript, IsLibrary. -/
import Derived.Test.YtgibhbplgiejpaaGreatLibV
import Derived.Test.YtgibhbplgiejpaaGreatTyA
import Derived.Test.YtgibhbplgiejpaaGreatSpecIs
namespace Go.Proofs.YtgibhbplgiejpaaGreat
open Go.RowKit
set_option linter.unusedVariables false
set_option maxHeartbeats 2000000 in
theorem specFind (L : List Dat) (A : Option Addr) (n c : Nat) (nm : ByteArray) (w : World) (h : Lies w (.l L) [.slice A n c]) (ht : ∀ x ∈ L, Has tyScript x) (hn : n ≤ 9223372036854775807) : Calls Tryz.prog 48 #[.slice A n c, .string nm] w (GivesInt (find L nm) w) := by
  have H := Lib.hid h
  have HT := Lib.hid ht
  clear h ht
  go_enter Tryz.func48, Tryz.ntmps48
  go_wp2
  go_loop [5] (fun iv => ∃ i : Nat, i ≤ n ∧ iv = .int .i64 i ∧ ∀ (j : Nat) (e : Dat), j < i → L[j]? = some e → ¬ nameOf e = nm) (fun iv => n - (intOf iv).toNat)
  case atStart => exact ⟨0, Nat.zero_le _, rfl, fun j e hj => by omega⟩
  case round =>
    obtain ⟨i, hin, rfl, hno⟩ := hrel
    have HNO := Lib.hid hno
    clear hno
    by_cases hlt : i < n
    · obtain ⟨b, off, d, xs, rfl, hbw, hzi, hlie, hlen, hcell⟩ := H.out.elem (fun x hx => (HT.out x hx).width) hlt
      obtain ⟨f0, L1, A1, n1, c1, rfl, rfl, hf0, hl1, ht1, hm1⟩ := invScript (HT.out d (List.mem_of_getElem? hzi)) hlie
      have r0 : w.cell? ⟨b, off + i * 2, none⟩ = some (.string f0) := hcell 0 _ rfl
      have HZ := Lib.hid hzi
      clear hzi hcell hlie hl1 ht1
      by_cases he : f0 = nm
      · subst he
        have HE := Lib.hid (find_at HNO.out HZ.out rfl)
        go_wp2
        go_ret
        exact GivesInt.ret HE.out (Below.refl _ _)
      · have he1 := bytes_ne he
        have he2 := bytes_neb he
        have HN : Hid (∀ (j : Nat) (e : Dat), j < i + 1 → L[j]? = some e → ¬ nameOf e = nm) := Lib.hid (fun j e hj hje => by
          by_cases hji : j < i
          · exact HNO.out j e hji hje
          · obtain rfl : j = i := by omega
            rw [HZ.out] at hje
            obtain rfl := Option.some.inj hje
            exact he)
        clear he
        go_wp2
        go_round
        case rel => exact ⟨i + 1, by omega, by go_num, HN.out⟩
        case measure => simp [intOf]; omega
    · have HE := Lib.hid (find_none (L := L) (nm := nm) (fun j e hje => HNO.out j e (by have h1 := H.out.count; have := (List.getElem?_eq_some_iff.1 hje).1; omega) hje))
      go_wp2
      go_ret
      exact GivesInt.ret HE.out (Below.refl _ _)
theorem specIns (d : Dat) (f0 f1 f2 f3 f4 : Int) (f5 : ByteArray) (w : World) (hd : d = .r [.i f0, .i f1, .i f2, .i f3, .i f4, .s f5]) (hs : f5.size ≤ 140737488351232) : Calls Tryz.prog 103 #[.agg #[.int .i64 f0, .int .i64 f1, .int .i64 f2, .int .i64 f3, .int .i64 f4, .string f5]] w (GivesBool (isInsD d) w) := by
  subst hd
  exact specIs ⟨f0, f1, f2, f3, f4, f5⟩ w hs
theorem all_take {p : Dat → Bool} {L : List Dat} {i : Nat} {d : Dat} (h : (L.take i).all p = true) (hd : L[i]? = some d) (hp : p d = true) : (L.take (i + 1)).all p = true := by
  rw [List.take_add_one, hd, List.all_append, h]
  simp [hp]
theorem meth_no {nm : ByteArray} {L : List Dat} {i : Nat} {d : Dat} (hd : L[i]? = some d) (hp : isInsD d = false) : false = isMeth (.r [.s nm, .l L]) := by
  have : L.all isInsD = false := by
    rw [List.all_eq_false]
    exact ⟨d, List.mem_of_getElem? hd, by simp [hp]⟩
  show false = (L.all isInsD && isName nm && decide (L.length ≤ 12))
  rw [this]; rfl
theorem meth_rest {nm : ByteArray} {L : List Dat} {n : Nat} (h : (L.take n).all isInsD = true) (hn : L.length = n) : isMeth (.r [.s nm, .l L]) = (isName nm && decide (n ≤ 12)) := by
  rw [List.take_of_length_le (by omega)] at h
  show (L.all isInsD && isName nm && decide (L.length ≤ 12)) = _
  rw [h, hn, Bool.true_and]
set_option maxHeartbeats 4000000 in
theorem specMeth (nm : ByteArray) (L : List Dat) (A : Option Addr) (n c : Nat) (w : World) (h : Lies w (.l L) [.slice A n c]) (ht : ∀ x ∈ L, Has tyInstr x) (hq : (Dat.r [.s nm, .l L]).bulk ≤ 1099511627776) : Calls Tryz.prog 83 #[.agg #[.string nm, .slice A n c]] w (GivesBool (isMeth (.r [.s nm, .l L])) w) := by
  have hn : n ≤ 1099511627776 := by have := h.count; simp only [Dat.bulk, bulkAll] at hq; omega
  have hs : nm.size ≤ 140737488351232 := by simp only [Dat.bulk, bulkAll] at hq; omega
  have X0 : Hid (Box w.heap.size [.string nm, .slice A n c] (w.alloc (.cells #[.string nm, .slice A n c] 26)) ∧ Below w.heap.size w (w.alloc (.cells #[.string nm, .slice A n c] 26))) := Lib.hid ⟨Box.new w #[.string nm, .slice A n c] _, (Below.refl _ _).alloc (Nat.le_refl _) _⟩
  have H := Lib.hid h
  have HT := Lib.hid ht
  have HQ := Lib.hid hq
  have HC := Lib.hid h.count
  clear h ht hq
  go_enter Tryz.func83, Tryz.ntmps83
  go_wp2
  go_loopw [3] (fun iv wr => ∃ i : Nat, i ≤ n ∧ iv = .int .i64 i ∧ (L.take i).all isInsD = true ∧ (Box w.heap.size [.string nm, .slice A n c] wr ∧ Below w.heap.size w wr)) (fun iv _ => n - (intOf iv).toNat)
  case atStart => exact ⟨0, Nat.zero_le _, rfl, rfl, X0.out⟩
  case round =>
    obtain ⟨i, hin, rfl, hall, hX⟩ := hrel
    have HA := Lib.hid hall
    have b0 := hX.1.2 0 _ rfl
    have b1 := hX.1.2 1 _ rfl
    have X := Lib.hid hX
    clear hall hX X0
    by_cases hlt : i < n
    · obtain ⟨b, off, d, xs, rfl, hbw, hzi, hlie, hlen, hcell⟩ := (H.out.below X.out.2).elem (fun x hx => (HT.out x hx).width) hlt
      have hds : d.bulk ≤ 1099511627776 := by have h1 := bulk_mem (List.mem_of_getElem? hzi); have h2 := HQ.out; simp only [Dat.bulk, bulkAll] at h2; omega
      obtain ⟨f0, f1, f2, f3, f4, f5, hd, rfl, hf5⟩ := invInstr (HT.out d (List.mem_of_getElem? hzi)) hlie
      have hf5' : f5.size ≤ 140737488351232 := by rw [hd] at hds; simp only [Dat.bulk, bulkAll] at hds; omega
      have r0 : wr.cell? ⟨b, off + i * 6, none⟩ = some (.int .i64 f0) := hcell 0 _ rfl
      have r1 : wr.cell? ⟨b, off + i * 6 + 1, none⟩ = some (.int .i64 f1) := hcell 1 _ rfl
      have r2 : wr.cell? ⟨b, off + i * 6 + 2, none⟩ = some (.int .i64 f2) := hcell 2 _ rfl
      have r3 : wr.cell? ⟨b, off + i * 6 + 3, none⟩ = some (.int .i64 f3) := hcell 3 _ rfl
      have r4 : wr.cell? ⟨b, off + i * 6 + 4, none⟩ = some (.int .i64 f4) := hcell 4 _ rfl
      have r5 : wr.cell? ⟨b, off + i * 6 + 5, none⟩ = some (.string f5) := hcell 5 _ rfl
      have HZ := Lib.hid hzi
      have HD := Lib.hid hd
      clear hzi hcell hlie hd hds
      obtain ⟨v, hv⟩ : ∃ v, isInsD d = v := ⟨_, rfl⟩
      have HV := Lib.hid hv
      clear hv
      cases v with
      | false =>
        have HN := Lib.hid (meth_no (nm := nm) HZ.out HV.out)
        go_wp2_with fail
        refine (specIns d f0 f1 f2 f3 f4 f5 _ HD.out hf5').mono ?_
        rintro e w2 ⟨rfl, hb⟩
        rw [HV.out]
        have HB := Lib.hid (X.out.2.trans (hb.mono X.out.2.size))
        clear hb
        go_wp2_with fail
        go_ret
        exact GivesBool.of HN.out HB.out
      | true =>
        have HN := Lib.hid (all_take HA.out HZ.out HV.out)
        go_wp2_with fail
        refine (specIns d f0 f1 f2 f3 f4 f5 _ HD.out hf5').mono ?_
        rintro e w2 ⟨rfl, hb⟩
        rw [HV.out]
        have X2 := Lib.hid (And.intro (X.out.1.below hb) (X.out.2.trans (hb.mono X.out.2.size)))
        clear hb
        go_wp2_with fail
        go_roundw
        case rel => exact ⟨i + 1, by omega, by go_num, HN.out, X2.out⟩
        case measure => simp [intOf]; omega
    · obtain rfl : i = n := by omega
      have HE := Lib.hid (meth_rest (nm := nm) HA.out HC.out)
      obtain ⟨v, hv⟩ : ∃ v, isName nm = v := ⟨_, rfl⟩
      have HV := Lib.hid hv
      clear hv
      go_wp2_with fail
      refine (specName nm _ hs).mono ?_
      rintro e w2 ⟨rfl, rfl⟩
      rw [HV.out]
      cases v with
      | false =>
        go_wp2_with fail
        go_ret
        exact GivesBool.of (by rw [HE.out, HV.out]; rfl) X.out.2
      | true =>
        by_cases h12 : i ≤ 12
        · go_wp2_with fail
          go_ret
          exact GivesBool.of (by rw [HE.out, HV.out]; simp [h12]; omega) X.out.2
        · go_wp2_with fail
          go_ret
          exact GivesBool.of (by rw [HE.out, HV.out]; simp [h12]; omega) X.out.2
end Go.Proofs.YtgibhbplgiejpaaGreat
namespace Go.Proofs.YtgibhbplgiejpaaGreat
open Go.RowKit
set_option linter.unusedVariables false
set_option linter.unusedSimpArgs false
/-- The first i have names of their own. -/
def Ap (L : List Dat) (i : Nat) : Prop := ∀ (j k : Nat) (a b : Dat), j < k → k < i → L[j]? = some a → L[k]? = some b → ¬ nameOf a = nameOf b
theorem Ap.zero (L : List Dat) : Ap L 0 := fun j k a b _ h => by omega
theorem Ap.next {L : List Dat} {i : Nat} {d : Dat} (h : Ap L i) (hd : L[i]? = some d) (hn : ∀ (j : Nat) (a : Dat), j < i → L[j]? = some a → ¬ nameOf a = nameOf d) : Ap L (i + 1) := fun j k a b hjk hk ha hb => by
  by_cases e : k = i
  · subst e
    rw [hd] at hb
    obtain rfl := Option.some.inj hb
    exact hn j a hjk ha
  · exact h j k a b hjk (by omega) ha hb
theorem Ap.apart {L : List Dat} {n : Nat} (h : Ap L n) (hn : L.length = n) : apart L = true := by
  refine decide_eq_true (List.pairwise_iff_getElem.2 fun j k hj hk hjk => ?_)
  simp only [List.getElem_map]
  simp only [List.length_map] at hj hk
  exact h j k _ _ hjk (by omega) (List.getElem?_eq_getElem hj) (List.getElem?_eq_getElem hk)
theorem apart_no {L : List Dat} {j k : Nat} {a b : Dat} (hjk : j < k) (ha : L[j]? = some a) (hb : L[k]? = some b) (he : nameOf a = nameOf b) : apart L = false := by
  refine decide_eq_false fun h => ?_
  obtain ⟨hj, rfl⟩ := List.getElem?_eq_some_iff.1 ha
  obtain ⟨hk, rfl⟩ := List.getElem?_eq_some_iff.1 hb
  have := List.pairwise_iff_getElem.1 h j k (by simpa using hj) (by simpa using hk) hjk
  simp only [List.getElem_map] at this
  exact this he
theorem scr_no {nm : ByteArray} {L : List Dat} {i : Nat} {d : Dat} (hd : L[i]? = some d) (hp : isMeth d = false) : false = isScr (.r [.s nm, .l L]) := by
  have : L.all isMeth = false := by
    rw [List.all_eq_false]
    exact ⟨d, List.mem_of_getElem? hd, by simp [hp]⟩
  show false = (L.all isMeth && apart L && isName nm && decide (L.length ≤ 4))
  rw [this]; rfl
theorem scr_no2 {nm : ByteArray} {L : List Dat} (h : apart L = false) : false = isScr (.r [.s nm, .l L]) := by
  show false = (L.all isMeth && apart L && isName nm && decide (L.length ≤ 4))
  rw [h]; simp
theorem scr_rest {nm : ByteArray} {L : List Dat} {n : Nat} (h : (L.take n).all isMeth = true) (ha : Ap L n) (hn : L.length = n) : isScr (.r [.s nm, .l L]) = (isName nm && decide (n ≤ 4)) := by
  have h2 := ha.apart hn
  rw [List.take_of_length_le (by omega)] at h
  show (L.all isMeth && apart L && isName nm && decide (L.length ≤ 4)) = _
  rw [h, h2, hn, Bool.true_and, Bool.true_and]
theorem specMethD (d : Dat) (f0 : ByteArray) (L1 : List Dat) (A1 : Option Addr) (n1 c1 : Nat) (w : World) (hd : d = .r [.s f0, .l L1]) (h : Lies w (.l L1) [.slice A1 n1 c1]) (ht : ∀ x ∈ L1, Has tyInstr x) (hq : d.bulk ≤ 1099511627776) :
    Calls Tryz.prog 83 #[.agg #[.string f0, .slice A1 n1 c1]] w (GivesBool (isMeth d) w) := by
  subst hd
  exact specMeth f0 L1 A1 n1 c1 w h ht hq
/-- A record [string, slice] in its box. -/
def StX (W : World) (nm : ByteArray) (A : Option Addr) (n c : Nat) (w : World) : Prop := Box W.heap.size [.string nm, .slice A n c] w ∧ Below W.heap.size W w
theorem StX.below {W w w' : World} {nm : ByteArray} {A : Option Addr} {n c : Nat} (h : StX W nm A n c w) (hb : Below w.heap.size w w') : StX W nm A n c w' := ⟨h.1.below hb, h.2.trans (hb.mono h.2.size)⟩
theorem StX.drewN {W w : World} {nm : ByteArray} {A : Option Addr} {n c : Nat} (h : StX W nm A n c w) (k : Nat) : StX W nm A n c (w.drewN k) := h.below (below_drewN (Below.refl _ _) k)
theorem StX.cells {W w : World} {nm : ByteArray} {A : Option Addr} {n c : Nat} (h : StX W nm A n c w) : w.cell? ⟨W.heap.size, 0, none⟩ = some (.string nm) ∧ w.cell? ⟨W.heap.size, 1, none⟩ = some (.slice A n c) := ⟨h.1.2 0 _ rfl, h.1.2 1 _ rfl⟩
set_option maxRecDepth 100000 in
set_option maxHeartbeats 8000000 in
theorem specScr (nm : ByteArray) (L : List Dat) (A : Option Addr) (n c : Nat) (w : World) (h : Lies w (.l L) [.slice A n c]) (ht : ∀ x ∈ L, Has tyMethod x) (hq : (Dat.r [.s nm, .l L]).bulk ≤ 1099511627776) : Calls Tryz.prog 84 #[.agg #[.string nm, .slice A n c]] w (GivesBool (isScr (.r [.s nm, .l L])) w) := by
  have hn : n ≤ 1099511627776 := by have := h.count; simp only [Dat.bulk, bulkAll] at hq; omega
  have hs : nm.size ≤ 140737488351232 := by simp only [Dat.bulk, bulkAll] at hq; omega
  have X0 : Hid (StX w nm A n c (w.alloc (.cells #[.string nm, .slice A n c] 37))) := Lib.hid ⟨Box.new w #[.string nm, .slice A n c] _, (Below.refl _ _).alloc (Nat.le_refl _) _⟩
  have H := Lib.hid h
  have HT := Lib.hid ht
  have HQ := Lib.hid hq
  have HC := Lib.hid h.count
  clear h ht hq
  go_enter Tryz.func84, Tryz.ntmps84
  go_wp2
  go_loopw [3] (fun iv wr => ∃ i : Nat, i ≤ n ∧ iv = .int .i64 i ∧ (L.take i).all isMeth = true ∧ Ap L i ∧ StX w nm A n c wr) (fun iv _ => n - (intOf iv).toNat)
  case atStart => exact ⟨0, Nat.zero_le _, rfl, rfl, Ap.zero _, X0.out⟩
  case round =>
    obtain ⟨i, hin, rfl, hall, hap, hX⟩ := hrel
    have HA := Lib.hid hall
    have HAP := Lib.hid hap
    obtain ⟨b0, b1⟩ := hX.cells
    have X := Lib.hid hX
    clear hall hX X0 hap
    by_cases hlt : i < n
    · obtain ⟨b, off, d, xs, rfl, hbw, hzi, hlie, hlen, hcell⟩ := (H.out.below X.out.2).elem (fun x hx => (HT.out x hx).width) hlt
      have hds : d.bulk ≤ 1099511627776 := by have h1 := bulk_mem (List.mem_of_getElem? hzi); have h2 := HQ.out; simp only [Dat.bulk, bulkAll] at h2; omega
      obtain ⟨f0, L1, A1, n1, c1, hd, rfl, hf0, hl1, ht1, hm1⟩ := invMethod (HT.out d (List.mem_of_getElem? hzi)) hlie
      have r0 : wr.cell? ⟨b, off + i * 2, none⟩ = some (.string f0) := hcell 0 _ rfl
      have r1 : wr.cell? ⟨b, off + i * 2 + 1, none⟩ = some (.slice A1 n1 c1) := hcell 1 _ rfl
      have hnm : nameOf d = f0 := by rw [hd]; rfl
      have HNM := Lib.hid hnm
      have HZ := Lib.hid hzi
      have HD := Lib.hid hd
      have HL1 := Lib.hid hl1
      have HT1 := Lib.hid ht1
      have HDS := Lib.hid hds
      clear hzi hcell hlie hd hds hl1 ht1 hnm
      obtain ⟨v, hv⟩ : ∃ v, isMeth d = v := ⟨_, rfl⟩
      have HV := Lib.hid hv
      clear hv
      cases v with
      | false =>
        have HN := Lib.hid (scr_no (nm := nm) HZ.out HV.out)
        go_wp2_with fail
        refine (specMethD d f0 L1 A1 n1 c1 _ HD.out HL1.out HT1.out HDS.out).mono ?_
        rintro e w2 ⟨rfl, hb⟩
        rw [HV.out]
        have HB := Lib.hid (X.out.2.trans (hb.mono X.out.2.size))
        clear hb
        go_wp2_with fail
        go_ret
        exact GivesBool.of HN.out HB.out
      | true =>
        have HN := Lib.hid (all_take HA.out HZ.out HV.out)
        go_wp2_with fail
        refine (specMethD d f0 L1 A1 n1 c1 _ HD.out HL1.out HT1.out HDS.out).mono ?_
        rintro e w2 ⟨rfl, hb⟩
        rw [HV.out]
        have X2 := Lib.hid (X.out.below hb)
        clear hb b0 b1 r0 r1
        go_wp2_with fail
        go_loopw [4] (fun kv wq => ∃ k : Nat, k ≤ i ∧ kv = .int .i64 k ∧ (∀ (j : Nat) (a : Dat), j < k → L[j]? = some a → ¬ nameOf a = f0) ∧ StX w nm (some ⟨b, off, none⟩) n c wq) (fun kv _ => i - (intOf kv).toNat)
        case atStart => exact ⟨0, Nat.zero_le _, rfl, fun j a hj => by omega, X2.out⟩
        case round =>
          obtain ⟨k, hki, rfl, hno, hX3⟩ := hrel
          have HNO := Lib.hid hno
          obtain ⟨b0, b1⟩ := hX3.cells
          have X3 := Lib.hid hX3
          clear hno hX3
          by_cases hklt : k < i
          · obtain ⟨b', off', dk, xk, eA, hbk, hzk, hliek, hlenk, hcellk⟩ := (H.out.below X3.out.2).elem (i := k) (fun x hx => (HT.out x hx).width) (by omega)
            obtain ⟨b2, off2, di, xi, eA2, hbi, hzi2, hliei, hleni, hcelli⟩ := (H.out.below X3.out.2).elem (i := i) (fun x hx => (HT.out x hx).width) hlt
            simp only [Option.some.injEq, Addr.mk.injEq, and_true] at eA eA2
            obtain ⟨rfl, rfl⟩ := eA
            obtain ⟨rfl, rfl⟩ := eA2
            obtain rfl : d = di := by have := HZ.out; rw [hzi2] at this; exact (Option.some.inj this).symm
            obtain ⟨g0, M1, B1, m1, k1, hdk, rfl, hg0, -, -, -⟩ := invMethod (HT.out dk (List.mem_of_getElem? hzk)) hliek
            obtain ⟨h0, M2, B2, m2, k2, hdi, rfl, hh0, -, -, -⟩ := invMethod (HT.out d (List.mem_of_getElem? hzi2)) hliei
            obtain rfl : f0 = h0 := by have h1 := HNM.out; rw [hdi] at h1; exact h1.symm
            have s0 : wr.cell? ⟨b, off + k * 2, none⟩ = some (.string g0) := hcellk 0 _ rfl
            have t0 : wr.cell? ⟨b, off + i * 2, none⟩ = some (.string f0) := hcelli 0 _ rfl
            have hgn : nameOf dk = g0 := by rw [hdk]; rfl
            have HG := Lib.hid hgn
            have HZK := Lib.hid hzk
            clear hzk hzi2 hliek hliei hlenk hleni hcellk hcelli hdk hdi hgn
            have hk0 : (0 : Int) ≤ k := by omega
            have hk1 : (k : Int) < n := by omega
            have hi0 : (0 : Int) ≤ i := by omega
            have hi1 : (i : Int) < n := by omega
            by_cases he : g0 = f0
            · subst he
              have HF := Lib.hid (scr_no2 (nm := nm) (apart_no hklt HZK.out HZ.out (HG.out.trans HNM.out.symm)))
              go_wp2
              go_quiet (fail)
              go_wp2
              go_ret
              exact GivesBool.of HF.out (below_drewN X3.out.2 _)
            · have he1 := bytes_ne he
              have he2 := bytes_neb he
              have HNN : Hid (∀ (j : Nat) (a : Dat), j < k + 1 → L[j]? = some a → ¬ nameOf a = f0) := Lib.hid (fun j a hj ha => by
                by_cases hji : j < k
                · exact HNO.out j a hji ha
                · obtain rfl : j = k := by omega
                  rw [HZK.out] at ha
                  obtain rfl := Option.some.inj ha
                  rw [HG.out]
                  exact he)
              clear he
              go_wp2
              go_quiet (fail)
              go_wp2
              go_roundw
              case rel => exact ⟨k + 1, by omega, by go_num, HNN.out, X3.out.drewN _⟩
              case measure => simp [intOf]; omega
          · obtain rfl : k = i := by omega
            have HAN := Lib.hid (HAP.out.next HZ.out (fun j a hj ha => by rw [HNM.out]; exact HNO.out j a hj ha))
            go_wp2
            go_roundw
            case rel => exact ⟨k + 1, by omega, by go_num, HN.out, HAN.out, X3.out⟩
            case measure => simp [intOf]; omega
    · obtain rfl : i = n := by omega
      have HE := Lib.hid (scr_rest (nm := nm) HA.out HAP.out HC.out)
      obtain ⟨v, hv⟩ : ∃ v, isName nm = v := ⟨_, rfl⟩
      have HV := Lib.hid hv
      clear hv
      go_wp2_with fail
      refine (specName nm _ hs).mono ?_
      rintro e w2 ⟨rfl, rfl⟩
      rw [HV.out]
      cases v with
      | false =>
        go_wp2_with fail
        go_ret
        exact GivesBool.of (by rw [HE.out, HV.out]; rfl) X.out.2
      | true =>
        by_cases h4 : i ≤ 4
        · go_wp2_with fail
          go_ret
          exact GivesBool.of (by rw [HE.out, HV.out]; simp [h4]; omega) X.out.2
        · go_wp2_with fail
          go_ret
          exact GivesBool.of (by rw [HE.out, HV.out]; simp [h4]; omega) X.out.2
theorem findFrom_lt : ∀ {L : List Dat} {nm : ByteArray} {k : Int} {j : Nat} {a : Dat}, L[j]? = some a → nameOf a = nm → findFrom L nm k ≤ k + j
  | [], _, _, _, _, h, _ => by simp at h
  | x :: L, nm, k, j, a, h, he => by
    rw [findFrom]
    by_cases hx : nameOf x = nm
    · rw [if_pos hx]; omega
    · rw [if_neg hx]
      match j, h with
      | 0, h => obtain rfl : x = a := by simpa using h
                exact absurd he hx
      | j + 1, h =>
        have := findFrom_lt (k := k + 1) (j := j) (by simpa using h) he
        omega
theorem lib_no {L : List Dat} {i : Nat} {d : Dat} (hd : L[i]? = some d) (hp : isScr d = false) : false = isLib L := by
  have : L.all isScr = false := by
    rw [List.all_eq_false]
    exact ⟨d, List.mem_of_getElem? hd, by simp [hp]⟩
  rw [isLib, this]; rfl
theorem lib_no2 {L : List Dat} (h : apart L = false) : false = isLib L := by rw [isLib, h]; simp
theorem lib_rest {L : List Dat} {n : Nat} (h : (L.take n).all isScr = true) (ha : Ap L n) (hn : L.length = n) : decide (n ≤ 6) = isLib L := by
  have h2 := ha.apart hn
  rw [List.take_of_length_le (by omega)] at h
  rw [isLib, h, h2, hn, Bool.true_and, Bool.true_and]
theorem specScrD (d : Dat) (f0 : ByteArray) (L1 : List Dat) (A1 : Option Addr) (n1 c1 : Nat) (w : World) (hd : d = .r [.s f0, .l L1]) (h : Lies w (.l L1) [.slice A1 n1 c1]) (ht : ∀ x ∈ L1, Has tyMethod x) (hq : d.bulk ≤ 1099511627776) :
    Calls Tryz.prog 84 #[.agg #[.string f0, .slice A1 n1 c1]] w (GivesBool (isScr d) w) := by
  subst hd
  exact specScr f0 L1 A1 n1 c1 w h ht hq
theorem specFindV (L : List Dat) (A : Option Addr) (n c : Nat) (nm : ByteArray) (r : Int) (w : World) (h : Lies w (.l L) [.slice A n c]) (ht : ∀ x ∈ L, Has tyScript x) (hn : n ≤ 9223372036854775807) (hr : find L nm = r) : Calls Tryz.prog 48 #[.slice A n c, .string nm] w (GivesInt r w) := by
  subst hr
  exact specFind L A n c nm w h ht hn
set_option maxRecDepth 100000 in
set_option maxHeartbeats 8000000 in
theorem specLib (L : List Dat) (A : Option Addr) (n c : Nat) (w : World) (h : Lies w (.l L) [.slice A n c]) (ht : ∀ x ∈ L, Has tyScript x) (hq : (Dat.l L).bulk ≤ 1099511627776) : Calls Tryz.prog 46 #[.slice A n c] w (GivesBool (isLib L) w) := by
  have hn : n ≤ 1099511627776 := by have := h.count; simp only [Dat.bulk] at hq; omega
  have H := Lib.hid h
  have HT := Lib.hid ht
  have HQ := Lib.hid hq
  have HC := Lib.hid h.count
  clear h ht hq
  go_enter Tryz.func46, Tryz.ntmps46
  go_wp2
  go_loopw [3] (fun iv wr => ∃ i : Nat, i ≤ n ∧ iv = .int .i64 i ∧ (L.take i).all isScr = true ∧ Ap L i ∧ Below w.heap.size w wr) (fun iv _ => n - (intOf iv).toNat)
  case atStart => exact ⟨0, Nat.zero_le _, rfl, rfl, Ap.zero _, Below.refl _ _⟩
  case round =>
    obtain ⟨i, hin, rfl, hall, hap, hb0⟩ := hrel
    have HA := Lib.hid hall
    have HAP := Lib.hid hap
    have HB := Lib.hid hb0
    clear hall hap hb0
    by_cases hlt : i < n
    · obtain ⟨b, off, d, xs, rfl, hbw, hzi, hlie, hlen, hcell⟩ := (H.out.below HB.out).elem (fun x hx => (HT.out x hx).width) hlt
      have hds : d.bulk ≤ 1099511627776 := by have h1 := bulk_mem (List.mem_of_getElem? hzi); have h2 := HQ.out; simp only [Dat.bulk] at h2; omega
      obtain ⟨f0, L1, A1, n1, c1, hd, rfl, hf0, hl1, ht1, hm1⟩ := invScript (HT.out d (List.mem_of_getElem? hzi)) hlie
      have r0 : wr.cell? ⟨b, off + i * 2, none⟩ = some (.string f0) := hcell 0 _ rfl
      have r1 : wr.cell? ⟨b, off + i * 2 + 1, none⟩ = some (.slice A1 n1 c1) := hcell 1 _ rfl
      have hnm : nameOf d = f0 := by rw [hd]; rfl
      have HNM := Lib.hid hnm
      have HZ := Lib.hid hzi
      have HD := Lib.hid hd
      have HL1 := Lib.hid hl1
      have HT1 := Lib.hid ht1
      have HDS := Lib.hid hds
      clear hzi hcell hlie hd hds hl1 ht1 hnm
      obtain ⟨v, hv⟩ : ∃ v, isScr d = v := ⟨_, rfl⟩
      have HV := Lib.hid hv
      clear hv
      cases v with
      | false =>
        have HN := Lib.hid (lib_no HZ.out HV.out)
        go_wp2_with fail
        refine (specScrD d f0 L1 A1 n1 c1 _ HD.out HL1.out HT1.out HDS.out).mono ?_
        rintro e w2 ⟨rfl, hb⟩
        rw [HV.out]
        have HB2 := Lib.hid (HB.out.trans (hb.mono HB.out.size))
        clear hb
        go_wp2_with fail
        go_ret
        exact GivesBool.of HN.out HB2.out
      | true =>
        have HN := Lib.hid (all_take HA.out HZ.out HV.out)
        go_wp2_with fail
        refine (specScrD d f0 L1 A1 n1 c1 _ HD.out HL1.out HT1.out HDS.out).mono ?_
        rintro e w2 ⟨rfl, hb⟩
        rw [HV.out]
        have HB2 := Lib.hid (HB.out.trans (hb.mono HB.out.size))
        have s0 : w2.cell? ⟨b, off + i * 2, none⟩ = some (.string f0) := (hb.cell (p := ⟨b, off + i * 2, none⟩) hbw).trans r0
        clear hb r0 r1
        by_cases hno : ∀ (j : Nat) (a : Dat), j < i → L[j]? = some a → ¬ nameOf a = f0
        · have HF := Lib.hid (find_at hno HZ.out HNM.out).symm
          have HAN := Lib.hid (HAP.out.next HZ.out (fun j a hj ha => by rw [HNM.out]; exact hno j a hj ha))
          clear hno
          go_wp2_with fail
          refine (specFindV L _ n c f0 (i : Int) _ (H.out.below HB2.out) HT.out (by omega) HF.out).mono ?_
          rintro e w3 ⟨rfl, hb⟩
          have HB3 := Lib.hid (HB2.out.trans (hb.mono HB2.out.size))
          clear hb
          go_wp2_with fail
          go_roundw
          case rel => exact ⟨i + 1, by omega, by go_num, HN.out, HAN.out, HB3.out⟩
          case measure => simp [intOf]; omega
        · obtain ⟨j, a, hj, ha, he⟩ : ∃ (j : Nat) (a : Dat), j < i ∧ L[j]? = some a ∧ nameOf a = f0 := by
            apply Classical.byContradiction
            intro hc
            exact hno (fun j a hj ha he => hc ⟨j, a, hj, ha, he⟩)
          have HF := Lib.hid (lib_no2 (apart_no hj ha HZ.out (he.trans HNM.out.symm)))
          obtain ⟨r, hr⟩ : ∃ r, find L f0 = r := ⟨_, rfl⟩
          have hri : r ≠ (i : Int) := by have h1 := findFrom_lt (k := 0) ha he; rw [find] at hr; omega
          have hri2 : ((r : Int) != (i : Int)) = true := by simpa using hri
          have hri3 : ((r : Int) == (i : Int)) = false := by simpa using hri
          have HR := Lib.hid hr
          clear hno hr ha he hri
          go_wp2_with fail
          refine (specFindV L _ n c f0 r _ (H.out.below HB2.out) HT.out (by omega) HR.out).mono ?_
          rintro e w3 ⟨rfl, hb⟩
          have HB3 := Lib.hid (HB2.out.trans (hb.mono HB2.out.size))
          clear hb
          go_wp2_with fail
          go_ret
          exact GivesBool.of HF.out HB3.out
    · obtain rfl : i = n := by omega
      have HE := Lib.hid (lib_rest HA.out HAP.out HC.out)
      by_cases h6 : i ≤ 6
      · go_wp2_with fail
        go_ret
        exact GivesBool.of (by rw [← HE.out]; simp [h6]; omega) HB.out
      · go_wp2_with fail
        go_ret
        exact GivesBool.of (by rw [← HE.out]; simp [h6]; omega) HB.out
end Go.Proofs.YtgibhbplgiejpaaGreat
