/- The reference's chapter 6: FindScript, Ends, IsMethod. -/
import Derived.Test.YtaepconmjmcbdaaScrV
import Derived.Test.YtaepconmjmcbdaaTyS
import Derived.Test.YtaepconmjmcbdaaSpecIs
namespace Go.Proofs.Ytaepconmjmcbdaa
open Go.RowKit
set_option linter.unusedVariables false
set_option maxHeartbeats 2000000 in
theorem specFind (L : List Dat) (A : Option Addr) (n c : Nat) (nm : ByteArray) (w : World) (h : Lies w (.l L) [.slice A n c]) (ht : ∀ x ∈ L, Has tyScript x) (hn : n ≤ 9223372036854775807) : Calls Try.prog 35 #[.slice A n c, .string nm] w (GivesInt (find L nm) w) := by
  have H := Lib.hid h
  have HT := Lib.hid ht
  clear h ht
  go_enter Try.func35, Try.ntmps35
  go_wp2
  go_loop [5] (fun iv => ∃ i : Nat, i ≤ n ∧ iv = .int .i64 i ∧ ∀ (j : Nat) (e : Dat), j < i → L[j]? = some e → ¬ nameOf e = nm) (fun iv => n - (intOf iv).toNat)
  case atStart => exact ⟨0, Nat.zero_le _, rfl, fun j e hj => by omega⟩
  case round =>
    obtain ⟨i, hin, rfl, hno⟩ := hrel
    have HNO := Lib.hid hno
    clear hno
    by_cases hlt : i < n
    · obtain ⟨b, off, d, xs, rfl, hbw, hzi, hlie, hlen, hcell⟩ := H.out.elem (fun x hx => (HT.out x hx).width) hlt
      obtain ⟨f0, L1, A1, n1, c1, rfl, rfl, hf0, hl1, ht1, hm1⟩ := invScript (HT.out d (List.mem_of_getElem? hzi)) hlie
      have r0 : w.cell? ⟨b, off + i * 2, none⟩ = some (.string f0) := hcell 0 _ rfl
      have HZ := Lib.hid hzi
      clear hzi hcell hlie hl1 ht1
      by_cases he : f0 = nm
      · subst he
        have HE := Lib.hid (find_at HNO.out HZ.out rfl)
        go_wp2
        go_ret
        exact GivesInt.ret HE.out (Below.refl _ _)
      · have he1 := bytes_ne he
        have he2 := bytes_neb he
        have HN : Hid (∀ (j : Nat) (e : Dat), j < i + 1 → L[j]? = some e → ¬ nameOf e = nm) := Lib.hid (fun j e hj hje => by
          by_cases hji : j < i
          · exact HNO.out j e hji hje
          · obtain rfl : j = i := by omega
            rw [HZ.out] at hje
            obtain rfl := Option.some.inj hje
            exact he)
        clear he
        go_wp2
        go_round
        case rel => exact ⟨i + 1, by omega, by go_num, HN.out⟩
        case measure => simp [intOf]; omega
    · have HE := Lib.hid (find_none (L := L) (nm := nm) (fun j e hje => HNO.out j e (by have h1 := H.out.count; have := (List.getElem?_eq_some_iff.1 hje).1; omega) hje))
      go_wp2
      go_ret
      exact GivesInt.ret HE.out (Below.refl _ _)
set_option maxHeartbeats 2000000 in
theorem specEnds (nm : ByteArray) (L : List Dat) (A : Option Addr) (n c : Nat) (w : World) (h : Lies w (.l L) [.slice A n c]) (ht : ∀ x ∈ L, Has tyInstr x) (hn : n ≤ 9223372036854775807) : Calls Try.prog 18 #[.agg #[.string nm, .slice A n c]] w (GivesBool (ends (.r [.s nm, .l L])) w) := by
  by_cases hz : n = 0
  · subst hz
    have hL : L = [] := List.eq_nil_of_length_eq_zero h.count
    subst hL
    clear h ht hn
    go_enter Try.func18, Try.ntmps18
    go_wp2
    go_ret
    exact GivesBool.of rfl (by go_grown)
  · obtain ⟨k, rfl⟩ : ∃ k, n = k + 1 := ⟨n - 1, by omega⟩
    have hc := h.count
    obtain ⟨b, off, d, xs, rfl, hbw, hzi, hlie, hlen, hcell⟩ := h.elem (i := k) (fun x hx => (ht x hx).width) (by omega)
    obtain ⟨f0, f1, f2, f3, f4, f5, rfl, rfl, hf5⟩ := invInstr (ht d (List.mem_of_getElem? hzi)) hlie
    have r0 : w.cell? ⟨b, off + k * 6, none⟩ = some (.int .i64 f0) := hcell 0 _ rfl
    have r0' : (w.alloc (.cells #[.string nm, .slice (some ⟨b, off, none⟩) (k + 1) c] 29)).cell? ⟨b, off + k * 6, none⟩ = some (.int .i64 f0) := (((Below.refl w.heap.size w).alloc (Nat.le_refl _) _).cell (p := ⟨b, off + k * 6, none⟩) hbw).trans r0
    have hE : (f0 == 10) = ends (.r [.s nm, .l L]) := by
      have hl : L.getLast? = some (.r [.i f0, .i f1, .i f2, .i f3, .i f4, .s f5]) := by rw [List.getLast?_eq_getElem?, hc]; exact hzi
      show _ = (match L.getLast? with | some x => decide ((insOf x).op = 10) | none => false)
      rw [hl, Bool.eq_iff_iff]
      simp only [insOf, beq_iff_eq]
      exact decide_eq_true_iff.symm
    have HE := Lib.hid hE
    clear h ht hz hc hzi hcell hlie hE r0
    have hk1 : ((k + 1 : Nat) : Int) - 1 = k := by omega
    have hk2 : (0 : Int) ≤ k := by omega
    have hk3 : (k : Int) < ((k + 1 : Nat) : Int) := by omega
    go_enter Try.func18, Try.ntmps18
    go_wp2
    go_ret
    exact GivesBool.of HE.out (by go_grown)
theorem specIns (d : Dat) (f0 f1 f2 f3 f4 : Int) (f5 : ByteArray) (w : World) (hd : d = .r [.i f0, .i f1, .i f2, .i f3, .i f4, .s f5]) (hs : f5.size ≤ 140737488351232) : Calls Try.prog 63 #[.agg #[.int .i64 f0, .int .i64 f1, .int .i64 f2, .int .i64 f3, .int .i64 f4, .string f5]] w (GivesBool (isInsD d) w) := by
  subst hd
  exact specIs ⟨f0, f1, f2, f3, f4, f5⟩ w hs
theorem all_take {p : Dat → Bool} {L : List Dat} {i : Nat} {d : Dat} (h : (L.take i).all p = true) (hd : L[i]? = some d) (hp : p d = true) : (L.take (i + 1)).all p = true := by
  rw [List.take_add_one, hd, List.all_append, h]
  simp [hp]
theorem meth_no {nm : ByteArray} {L : List Dat} {i : Nat} {d : Dat} (hd : L[i]? = some d) (hp : isInsD d = false) : false = isMeth (.r [.s nm, .l L]) := by
  have : L.all isInsD = false := by
    rw [List.all_eq_false]
    exact ⟨d, List.mem_of_getElem? hd, by simp [hp]⟩
  show false = (L.all isInsD && isName nm && decide (L.length ≤ 12))
  rw [this]; rfl
theorem meth_rest {nm : ByteArray} {L : List Dat} {n : Nat} (h : (L.take n).all isInsD = true) (hn : L.length = n) : isMeth (.r [.s nm, .l L]) = (isName nm && decide (n ≤ 12)) := by
  rw [List.take_of_length_le (by omega)] at h
  show (L.all isInsD && isName nm && decide (L.length ≤ 12)) = _
  rw [h, hn, Bool.true_and]
set_option maxHeartbeats 4000000 in
theorem specMeth (nm : ByteArray) (L : List Dat) (A : Option Addr) (n c : Nat) (w : World) (h : Lies w (.l L) [.slice A n c]) (ht : ∀ x ∈ L, Has tyInstr x) (hq : (Dat.r [.s nm, .l L]).bulk ≤ 1099511627776) : Calls Try.prog 25 #[.agg #[.string nm, .slice A n c]] w (GivesBool (isMeth (.r [.s nm, .l L])) w) := by
  have hn : n ≤ 1099511627776 := by have := h.count; simp only [Dat.bulk, bulkAll] at hq; omega
  have hs : nm.size ≤ 140737488351232 := by simp only [Dat.bulk, bulkAll] at hq; omega
  have X0 : Hid (Box w.heap.size [.string nm, .slice A n c] (w.alloc (.cells #[.string nm, .slice A n c] 29)) ∧ Below w.heap.size w (w.alloc (.cells #[.string nm, .slice A n c] 29))) := Lib.hid ⟨Box.new w #[.string nm, .slice A n c] _, (Below.refl _ _).alloc (Nat.le_refl _) _⟩
  have H := Lib.hid h
  have HT := Lib.hid ht
  have HQ := Lib.hid hq
  have HC := Lib.hid h.count
  clear h ht hq
  go_enter Try.func25, Try.ntmps25
  go_wp2
  go_loopw [3] (fun iv wr => ∃ i : Nat, i ≤ n ∧ iv = .int .i64 i ∧ (L.take i).all isInsD = true ∧ (Box w.heap.size [.string nm, .slice A n c] wr ∧ Below w.heap.size w wr)) (fun iv _ => n - (intOf iv).toNat)
  case atStart => exact ⟨0, Nat.zero_le _, rfl, rfl, X0.out⟩
  case round =>
    obtain ⟨i, hin, rfl, hall, hX⟩ := hrel
    have HA := Lib.hid hall
    have b0 := hX.1.2 0 _ rfl
    have b1 := hX.1.2 1 _ rfl
    have X := Lib.hid hX
    clear hall hX X0
    by_cases hlt : i < n
    · obtain ⟨b, off, d, xs, rfl, hbw, hzi, hlie, hlen, hcell⟩ := (H.out.below X.out.2).elem (fun x hx => (HT.out x hx).width) hlt
      have hds : d.bulk ≤ 1099511627776 := by have h1 := bulk_mem (List.mem_of_getElem? hzi); have h2 := HQ.out; simp only [Dat.bulk, bulkAll] at h2; omega
      obtain ⟨f0, f1, f2, f3, f4, f5, hd, rfl, hf5⟩ := invInstr (HT.out d (List.mem_of_getElem? hzi)) hlie
      have hf5' : f5.size ≤ 140737488351232 := by rw [hd] at hds; simp only [Dat.bulk, bulkAll] at hds; omega
      have r0 : wr.cell? ⟨b, off + i * 6, none⟩ = some (.int .i64 f0) := hcell 0 _ rfl
      have r1 : wr.cell? ⟨b, off + i * 6 + 1, none⟩ = some (.int .i64 f1) := hcell 1 _ rfl
      have r2 : wr.cell? ⟨b, off + i * 6 + 2, none⟩ = some (.int .i64 f2) := hcell 2 _ rfl
      have r3 : wr.cell? ⟨b, off + i * 6 + 3, none⟩ = some (.int .i64 f3) := hcell 3 _ rfl
      have r4 : wr.cell? ⟨b, off + i * 6 + 4, none⟩ = some (.int .i64 f4) := hcell 4 _ rfl
      have r5 : wr.cell? ⟨b, off + i * 6 + 5, none⟩ = some (.string f5) := hcell 5 _ rfl
      have HZ := Lib.hid hzi
      have HD := Lib.hid hd
      clear hzi hcell hlie hd hds
      obtain ⟨v, hv⟩ : ∃ v, isInsD d = v := ⟨_, rfl⟩
      have HV := Lib.hid hv
      clear hv
      cases v with
      | false =>
        have HN := Lib.hid (meth_no (nm := nm) HZ.out HV.out)
        go_wp2_with fail
        refine (specIns d f0 f1 f2 f3 f4 f5 _ HD.out hf5').mono ?_
        rintro e w2 ⟨rfl, hb⟩
        rw [HV.out]
        have HB := Lib.hid (X.out.2.trans (hb.mono X.out.2.size))
        clear hb
        go_wp2_with fail
        go_ret
        exact GivesBool.of HN.out HB.out
      | true =>
        have HN := Lib.hid (all_take HA.out HZ.out HV.out)
        go_wp2_with fail
        refine (specIns d f0 f1 f2 f3 f4 f5 _ HD.out hf5').mono ?_
        rintro e w2 ⟨rfl, hb⟩
        rw [HV.out]
        have X2 := Lib.hid (And.intro (X.out.1.below hb) (X.out.2.trans (hb.mono X.out.2.size)))
        clear hb
        go_wp2_with fail
        go_roundw
        case rel => exact ⟨i + 1, by omega, by go_num, HN.out, X2.out⟩
        case measure => simp [intOf]; omega
    · obtain rfl : i = n := by omega
      have HE := Lib.hid (meth_rest (nm := nm) HA.out HC.out)
      obtain ⟨v, hv⟩ : ∃ v, isName nm = v := ⟨_, rfl⟩
      have HV := Lib.hid hv
      clear hv
      go_wp2_with fail
      refine (specName nm _ hs).mono ?_
      rintro e w2 ⟨rfl, rfl⟩
      rw [HV.out]
      cases v with
      | false =>
        go_wp2_with fail
        go_ret
        exact GivesBool.of (by rw [HE.out, HV.out]; rfl) X.out.2
      | true =>
        by_cases h12 : i ≤ 12
        · go_wp2_with fail
          go_ret
          exact GivesBool.of (by rw [HE.out, HV.out]; simp [h12]; omega) X.out.2
        · go_wp2_with fail
          go_ret
          exact GivesBool.of (by rw [HE.out, HV.out]; simp [h12]; omega) X.out.2
end Go.Proofs.Ytaepconmjmcbdaa
