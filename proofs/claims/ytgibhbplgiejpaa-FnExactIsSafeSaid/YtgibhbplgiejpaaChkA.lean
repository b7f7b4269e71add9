/- Chapter 8: Writes, both sides; what an instruction sets. -/
import Derived.Test.YtgibhbplgiejpaaChkV
import Derived.Test.YtgibhbplgiejpaaInsL
import Derived.Test.YtgibhbplgiejpaaScrI
namespace Go.Proofs.Ytgibhbplgiejpaa
open Go.RowKit
set_option linter.unusedVariables false
set_option linter.unusedSimpArgs false
theorem implTargetD (d : Dat) (f0 f1 f2 f3 f4 : Int) (f5 : ByteArray) (w : World) (hd : d = .r [.i f0, .i f1, .i f2, .i f3, .i f4, .s f5]) : Calls Try.prog 58 #[.agg #[.int .i64 f0, .int .i64 f1, .int .i64 f2, .int .i64 f3, .int .i64 f4, .string f5]] w (GivesInt (targetOf (insOf d)) w) := by
  subst hd
  exact implTarget ⟨f0, f1, f2, f3, f4, f5⟩ w
theorem specTargetD (d : Dat) (f0 f1 f2 f3 f4 : Int) (f5 : ByteArray) (w : World) (hd : d = .r [.i f0, .i f1, .i f2, .i f3, .i f4, .s f5]) : Calls Try.prog 32 #[.agg #[.int .i64 f0, .int .i64 f1, .int .i64 f2, .int .i64 f3, .int .i64 f4, .string f5]] w (GivesInt (targetOf (insOf d)) w) := by
  subst hd
  exact specTarget ⟨f0, f1, f2, f3, f4, f5⟩ w
def setsD (r : Int) (d : Dat) : Bool := setsR (insOf d) r
theorem setsR_neg {x : I} {r : Int} (h : ¬ 0 ≤ r) : setsR x r = false := by simp [setsR, h]
theorem setsR_eq {x : I} {r t : Int} (h : 0 ≤ r) (ht : targetOf x = t) : setsR x r = (t == r) := by
  rw [setsR, decide_eq_true h, Bool.true_and, ht, Bool.eq_iff_iff]
  simp
set_option maxHeartbeats 1000000 in
theorem implSets (d : Dat) (f0 f1 f2 f3 f4 : Int) (f5 : ByteArray) (r : Int) (w : World) (hd : d = .r [.i f0, .i f1, .i f2, .i f3, .i f4, .s f5]) : Calls Try.prog 36 #[.agg #[.int .i64 f0, .int .i64 f1, .int .i64 f2, .int .i64 f3, .int .i64 f4, .string f5], .int .i64 r] w (GivesBool (setsR (insOf d) r) w) := by
  have HD := Lib.hid hd
  clear hd
  have B0 : Hid (Below w.heap.size w (w.alloc (.cells #[.int .i64 f0, .int .i64 f1, .int .i64 f2, .int .i64 f3, .int .i64 f4, .string f5] 61))) := Lib.hid ((Below.refl _ _).alloc (Nat.le_refl _) _)
  by_cases h0 : 0 ≤ r
  · obtain ⟨t, ht⟩ : ∃ t, targetOf (insOf d) = t := ⟨_, rfl⟩
    have HE := Lib.hid (setsR_eq h0 ht)
    have HTT := Lib.hid ht
    clear ht
    go_enter Try.func36, Try.ntmps36
    go_wp2_with fail
    refine (implTargetD d f0 f1 f2 f3 f4 f5 _ HD.out).mono ?_
    rintro e w2 ⟨rfl, hb⟩
    rw [HTT.out]
    have HB := Lib.hid (B0.out.trans (hb.mono B0.out.size))
    clear hb
    go_wp2_with fail
    go_ret
    exact GivesBool.of HE.out.symm HB.out
  · have HE := Lib.hid (setsR_neg (x := insOf d) h0)
    go_enter Try.func36, Try.ntmps36
    go_wp2_with fail
    go_ret
    exact GivesBool.of HE.out.symm B0.out
set_option maxHeartbeats 1000000 in
theorem implSets1 (d : Dat) (f0 f1 f2 f3 f4 : Int) (f5 : ByteArray) (r : Int) (g : Nat) (w : World) (hd : d = .r [.i f0, .i f1, .i f2, .i f3, .i f4, .s f5]) (h1 : Box g [.int .i64 r] w) :
    Calls Try.prog 35 #[.agg #[.int .i64 f0, .int .i64 f1, .int .i64 f2, .int .i64 f3, .int .i64 f4, .string f5], .pointer (some ⟨g, 0, none⟩)] w (GivesBool (setsD r d) w) := by
  have HD := Lib.hid hd
  have B0 : Hid (Below w.heap.size w (w.alloc (.cells #[.int .i64 f0, .int .i64 f1, .int .i64 f2, .int .i64 f3, .int .i64 f4, .string f5] 61))) := Lib.hid ((Below.refl _ _).alloc (Nat.le_refl _) _)
  have c0 := (h1.below B0.out).2 0 _ rfl
  clear hd h1
  go_enter Try.func35, Try.ntmps35
  go_wp2_with fail
  refine (implSets d f0 f1 f2 f3 f4 f5 r _ HD.out).mono ?_
  rintro e w2 ⟨rfl, hb⟩
  have HB := Lib.hid (B0.out.trans (hb.mono B0.out.size))
  clear hb
  go_wp2_with fail
  go_ret
  exact GivesBool.of rfl HB.out
set_option maxHeartbeats 2000000 in
theorem idxSets (L : List Dat) (A : Option Addr) (n c : Nat) (r : Int) (g : Nat) (w : World) (h : Lies w (.l L) [.slice A n c]) (ht : ∀ x ∈ L, Has tyInstr x) (hn : n ≤ 9223372036854775807) (h1 : Box g [.int .i64 r] w) :
    Calls Try.prog 57 #[.slice A n c, .func (.func 35) #[] #[.pointer (some ⟨g, 0, none⟩)]] w (GivesInt (idx (setsD r) L) w) := by
  have H := Lib.hid h
  have HT := Lib.hid ht
  have H1 := Lib.hid h1
  clear h ht h1
  go_enter Try.func57, Try.ntmps57
  go_wp2
  go_loopw [8] (fun iv wr => ∃ i : Nat, i ≤ n ∧ iv = .int .i64 i ∧ (∀ (j : Nat) (e : Dat), j < i → L[j]? = some e → setsD r e = false) ∧ Below w.heap.size w wr) (fun iv _ => n - (intOf iv).toNat)
  case atStart => exact ⟨0, Nat.zero_le _, rfl, fun j e hj => by omega, Below.refl _ _⟩
  case round =>
    obtain ⟨i, hin, rfl, hno, hb0⟩ := hrel
    have HNO := Lib.hid hno
    have HB := Lib.hid hb0
    clear hno hb0
    by_cases hlt : i < n
    · obtain ⟨b, off, d, xs, rfl, hbw, hzi, hlie, hlen, hcell⟩ := (H.out.below HB.out).elem (fun x hx => (HT.out x hx).width) hlt
      obtain ⟨f0, f1, f2, f3, f4, f5, hd, rfl, hf5⟩ := invInstr (HT.out d (List.mem_of_getElem? hzi)) hlie
      have r0 : wr.cell? ⟨b, off + i * 6, none⟩ = some (.int .i64 f0) := hcell 0 _ rfl
      have r1 : wr.cell? ⟨b, off + i * 6 + 1, none⟩ = some (.int .i64 f1) := hcell 1 _ rfl
      have r2 : wr.cell? ⟨b, off + i * 6 + 2, none⟩ = some (.int .i64 f2) := hcell 2 _ rfl
      have r3 : wr.cell? ⟨b, off + i * 6 + 3, none⟩ = some (.int .i64 f3) := hcell 3 _ rfl
      have r4 : wr.cell? ⟨b, off + i * 6 + 4, none⟩ = some (.int .i64 f4) := hcell 4 _ rfl
      have r5 : wr.cell? ⟨b, off + i * 6 + 5, none⟩ = some (.string f5) := hcell 5 _ rfl
      have HZ := Lib.hid hzi
      have HD := Lib.hid hd
      clear hzi hcell hlie hd
      obtain ⟨v, hv⟩ : ∃ v, setsD r d = v := ⟨_, rfl⟩
      have HV := Lib.hid hv
      clear hv
      cases v with
      | true =>
        have HN := Lib.hid (idx_at HNO.out HZ.out HV.out)
        go_wp2_with fail
        refine (implSets1 d f0 f1 f2 f3 f4 f5 r g _ HD.out (H1.out.below HB.out)).mono ?_
        rintro e w2 ⟨rfl, hb⟩
        rw [HV.out]
        have HB2 := Lib.hid (HB.out.trans (hb.mono HB.out.size))
        clear hb
        go_wp2_with fail
        go_ret
        exact GivesInt.ret HN.out HB2.out
      | false =>
        have HN : Hid (∀ (j : Nat) (e : Dat), j < i + 1 → L[j]? = some e → setsD r e = false) := Lib.hid (fun j e hj hje => by
          by_cases hji : j < i
          · exact HNO.out j e hji hje
          · obtain rfl : j = i := by omega
            rw [HZ.out] at hje
            obtain rfl := Option.some.inj hje
            exact HV.out)
        go_wp2_with fail
        refine (implSets1 d f0 f1 f2 f3 f4 f5 r g _ HD.out (H1.out.below HB.out)).mono ?_
        rintro e w2 ⟨rfl, hb⟩
        rw [HV.out]
        have HB2 := Lib.hid (HB.out.trans (hb.mono HB.out.size))
        clear hb
        go_wp2_with fail
        go_roundw
        case rel => exact ⟨i + 1, by omega, by go_num, HN.out, HB2.out⟩
        case measure => simp [intOf]; omega
    · have HE := Lib.hid (idx_none (p := setsD r) (L := L) (fun j e hje => HNO.out j e (by have h1 := H.out.count; have := (List.getElem?_eq_some_iff.1 hje).1; omega) hje))
      go_wp2
      go_ret
      exact GivesInt.ret HE.out HB.out
set_option maxHeartbeats 1000000 in
theorem anySets (L : List Dat) (A : Option Addr) (n c : Nat) (r : Int) (g : Nat) (w : World) (h : Lies w (.l L) [.slice A n c]) (ht : ∀ x ∈ L, Has tyInstr x) (hn : n ≤ 9223372036854775807) (h1 : Box g [.int .i64 r] w) :
    Calls Try.prog 34 #[.slice A n c, .func (.func 35) #[] #[.pointer (some ⟨g, 0, none⟩)]] w (GivesBool (L.any (setsD r)) w) := by
  have HA := Lib.hid (idx_any (setsD r) L)
  obtain ⟨k, hk⟩ : ∃ k, idx (setsD r) L = k := ⟨_, rfl⟩
  have HR := Lib.hid hk
  clear hk
  go_enter Try.func34, Try.ntmps34
  go_wp2_with fail
  refine (idxSets L A n c r g _ h ht hn h1).mono ?_
  rintro e w2 ⟨rfl, hb⟩
  rw [HR.out]
  have HB := Lib.hid hb
  clear hb
  go_wp2_with fail
  go_ret
  exact GivesBool.of (by rw [← HA.out, HR.out]) HB.out
def writesD (L : List Dat) (r : Int) : Bool := L.any (setsD r)
set_option maxHeartbeats 1000000 in
theorem implWrites (nm : ByteArray) (L : List Dat) (A : Option Addr) (n c : Nat) (r : Int) (w : World) (h : Lies w (.l L) [.slice A n c]) (ht : ∀ x ∈ L, Has tyInstr x) (hn : n ≤ 9223372036854775807) :
    Calls Try.prog 11 #[.agg #[.string nm, .slice A n c], .int .i64 r] w (GivesBool (writesD L r) w) := by
  have B0 : Hid (Below w.heap.size w ((w.alloc (.cells #[.string nm, .slice A n c] 29)).alloc (.cells #[.int .i64 r] 3))) := Lib.hid (by go_grown)
  have C1 : Hid (Box (w.heap.size + 1) [.int .i64 r] ((w.alloc (.cells #[.string nm, .slice A n c] 29)).alloc (.cells #[.int .i64 r] 3))) := Lib.hid (by have := Box.new (w.alloc (.cells #[.string nm, .slice A n c] 29)) #[.int .i64 r] 3; rw [World.size_alloc] at this; exact this)
  have H := Lib.hid (h.below B0.out)
  have HT := Lib.hid ht
  clear h ht
  go_enter Try.func11, Try.ntmps11
  go_wp2_with fail
  refine (anySets L A n c r (w.heap.size + 1) _ H.out HT.out hn C1.out).mono ?_
  rintro e w2 ⟨rfl, hb⟩
  have HB := Lib.hid (B0.out.trans (hb.mono B0.out.size))
  clear hb
  go_wp2_with fail
  go_ret
  exact GivesBool.of rfl HB.out
theorem writes_yes {L : List Dat} {r : Int} {i : Nat} {d : Dat} (hd : L[i]? = some d) (h : setsD r d = true) : true = writesD L r := (List.any_eq_true.2 ⟨d, List.mem_of_getElem? hd, h⟩).symm
theorem writes_no {L : List Dat} {r : Int} (h : ∀ (j : Nat) (e : Dat), L[j]? = some e → setsD r e = false) : false = writesD L r := by
  refine (List.any_eq_false.2 fun x hx => ?_).symm
  obtain ⟨j, hj⟩ := List.mem_iff_getElem?.1 hx
  rw [h j x hj]; simp
theorem sets_t {d : Dat} {r t : Int} (ht : targetOf (insOf d) = t) (h : t = r) (h0 : 0 ≤ r) : setsD r d = true := by rw [setsD, setsR_eq h0 ht, h]; simp
theorem sets_f {d : Dat} {r t : Int} (ht : targetOf (insOf d) = t) (h : ¬ t = r) : setsD r d = false := by
  by_cases h0 : 0 ≤ r
  · rw [setsD, setsR_eq h0 ht]; simpa using h
  · exact setsR_neg h0
set_option maxHeartbeats 4000000 in
theorem specWrites (nm : ByteArray) (L : List Dat) (A : Option Addr) (n c : Nat) (r : Int) (w : World) (h : Lies w (.l L) [.slice A n c]) (ht : ∀ x ∈ L, Has tyInstr x) (hn : n ≤ 9223372036854775807) :
    Calls Try.prog 9 #[.agg #[.string nm, .slice A n c], .int .i64 r] w (GivesBool (writesD L r) w) := by
  have X0 : Hid (Boxed2 w (.string nm) (.slice A n c) (w.alloc (.cells #[.string nm, .slice A n c] 29))) := Lib.hid (Boxed2.mk_ w _ _ _)
  have H := Lib.hid h
  have HT := Lib.hid ht
  clear h ht
  go_enter Try.func9, Try.ntmps9
  go_wp2
  go_loopw [5] (fun iv wr => ∃ i : Nat, i ≤ n ∧ iv = .int .i64 i ∧ (∀ (j : Nat) (e : Dat), j < i → L[j]? = some e → setsD r e = false) ∧ Boxed2 w (.string nm) (.slice A n c) wr) (fun iv _ => n - (intOf iv).toNat)
  case atStart => exact ⟨0, Nat.zero_le _, rfl, fun j e hj => by omega, X0.out⟩
  case round =>
    obtain ⟨i, hin, rfl, hno, hX⟩ := hrel
    have HNO := Lib.hid hno
    have X := Lib.hid hX
    obtain ⟨b0, b1⟩ := hX.two
    clear hno hX X0
    by_cases hlt : i < n
    · obtain ⟨b, off, d, xs, rfl, hbw, hzi, hlie, hlen, hcell⟩ := (H.out.below X.out.2).elem (fun x hx => (HT.out x hx).width) hlt
      obtain ⟨f0, f1, f2, f3, f4, f5, hd, rfl, hf5⟩ := invInstr (HT.out d (List.mem_of_getElem? hzi)) hlie
      have r0 : wr.cell? ⟨b, off + i * 6, none⟩ = some (.int .i64 f0) := hcell 0 _ rfl
      have r1 : wr.cell? ⟨b, off + i * 6 + 1, none⟩ = some (.int .i64 f1) := hcell 1 _ rfl
      have r2 : wr.cell? ⟨b, off + i * 6 + 2, none⟩ = some (.int .i64 f2) := hcell 2 _ rfl
      have r3 : wr.cell? ⟨b, off + i * 6 + 3, none⟩ = some (.int .i64 f3) := hcell 3 _ rfl
      have r4 : wr.cell? ⟨b, off + i * 6 + 4, none⟩ = some (.int .i64 f4) := hcell 4 _ rfl
      have r5 : wr.cell? ⟨b, off + i * 6 + 5, none⟩ = some (.string f5) := hcell 5 _ rfl
      have HZ := Lib.hid hzi
      have HD := Lib.hid hd
      clear hzi hcell hlie hd
      obtain ⟨t, ht⟩ : ∃ t, targetOf (insOf d) = t := ⟨_, rfl⟩
      have HTT := Lib.hid ht
      clear ht
      go_wp2_with fail
      refine (specTargetD d f0 f1 f2 f3 f4 f5 _ HD.out).mono ?_
      rintro e w2 ⟨rfl, hb⟩
      rw [HTT.out]
      have X2 := Lib.hid (X.out.below hb)
      clear hb
      by_cases htr : t = r
      · by_cases h0 : 0 ≤ r
        · have HN := Lib.hid (writes_yes HZ.out (sets_t HTT.out htr h0))
          subst htr
          go_wp2_with fail
          go_ret
          exact GivesBool.of HN.out X2.out.2
        · have HV := Lib.hid (show setsD r d = false from setsR_neg h0)
          have HN : Hid (∀ (j : Nat) (e : Dat), j < i + 1 → L[j]? = some e → setsD r e = false) := Lib.hid (fun j e hj hje => by
            by_cases hji : j < i
            · exact HNO.out j e hji hje
            · obtain rfl : j = i := by omega
              rw [HZ.out] at hje
              obtain rfl := Option.some.inj hje
              exact HV.out)
          subst htr
          go_wp2_with fail
          go_roundw
          case rel => exact ⟨i + 1, by omega, by go_num, HN.out, X2.out⟩
          case measure => simp [intOf]; omega
      · have HV := Lib.hid (sets_f HTT.out htr)
        have HN : Hid (∀ (j : Nat) (e : Dat), j < i + 1 → L[j]? = some e → setsD r e = false) := Lib.hid (fun j e hj hje => by
          by_cases hji : j < i
          · exact HNO.out j e hji hje
          · obtain rfl : j = i := by omega
            rw [HZ.out] at hje
            obtain rfl := Option.some.inj hje
            exact HV.out)
        have htb : (t == r) = false := by simpa using htr
        clear htr
        go_wp2_with fail
        go_roundw
        case rel => exact ⟨i + 1, by omega, by go_num, HN.out, X2.out⟩
        case measure => simp [intOf]; omega
    · have HE := Lib.hid (writes_no (L := L) (r := r) (fun j e hje => HNO.out j e (by have h1 := H.out.count; have := (List.getElem?_eq_some_iff.1 hje).1; omega) hje))
      go_wp2
      go_ret
      exact GivesBool.of HE.out X.out.2
end Go.Proofs.Ytgibhbplgiejpaa
