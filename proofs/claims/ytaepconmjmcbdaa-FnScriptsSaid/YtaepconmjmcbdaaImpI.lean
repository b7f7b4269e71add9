/- The program's chapter 6: IsMethod (and the search for an instruction that is none). -/
import Derived.Test.YtaepconmjmcbdaaScrW
import Derived.Test.YtaepconmjmcbdaaTyS
import Derived.Test.YtaepconmjmcbdaaIsI
namespace Go.Proofs.Ytaepconmjmcbdaa
open Go.RowKit
set_option linter.unusedVariables false
set_option linter.unusedSimpArgs false
theorem implIns (d : Dat) (f0 f1 f2 f3 f4 : Int) (f5 : ByteArray) (w : World) (hd : d = .r [.i f0, .i f1, .i f2, .i f3, .i f4, .s f5]) : Calls Try.prog 91 #[.agg #[.int .i64 f0, .int .i64 f1, .int .i64 f2, .int .i64 f3, .int .i64 f4, .string f5]] w (GivesBool (isInsD d) w) := by
  subst hd
  exact implIs ⟨f0, f1, f2, f3, f4, f5⟩ w
def noInsD (d : Dat) : Bool := !isInsD d
set_option maxHeartbeats 1000000 in
theorem noIns (d : Dat) (f0 f1 f2 f3 f4 : Int) (f5 : ByteArray) (w : World) (hd : d = .r [.i f0, .i f1, .i f2, .i f3, .i f4, .s f5]) : Calls Try.prog 66 #[.agg #[.int .i64 f0, .int .i64 f1, .int .i64 f2, .int .i64 f3, .int .i64 f4, .string f5]] w (GivesBool (noInsD d) w) := by
  have HD := Lib.hid hd
  clear hd
  have B0 : Hid (Below w.heap.size w (w.alloc (.cells #[.int .i64 f0, .int .i64 f1, .int .i64 f2, .int .i64 f3, .int .i64 f4, .string f5] 81))) := Lib.hid ((Below.refl _ _).alloc (Nat.le_refl _) _)
  go_enter Try.func66, Try.ntmps66
  go_wp2_with fail
  refine (implIns d f0 f1 f2 f3 f4 f5 _ HD.out).mono ?_
  rintro e w2 ⟨rfl, hb⟩
  have HB := Lib.hid (B0.out.trans (hb.mono B0.out.size))
  clear hb
  go_wp2_with fail
  go_ret
  exact GivesBool.of rfl HB.out
set_option maxHeartbeats 2000000 in
theorem idxIns (L : List Dat) (A : Option Addr) (n c : Nat) (w : World) (h : Lies w (.l L) [.slice A n c]) (ht : ∀ x ∈ L, Has tyInstr x) (hn : n ≤ 9223372036854775807) :
    Calls Try.prog 90 #[.slice A n c, .func (.func 66) #[] #[]] w (GivesInt (idx noInsD L) w) := by
  have H := Lib.hid h
  have HT := Lib.hid ht
  clear h ht
  go_enter Try.func90, Try.ntmps90
  go_wp2
  go_loopw [8] (fun iv wr => ∃ i : Nat, i ≤ n ∧ iv = .int .i64 i ∧ (∀ (j : Nat) (e : Dat), j < i → L[j]? = some e → noInsD e = false) ∧ Below w.heap.size w wr) (fun iv _ => n - (intOf iv).toNat)
  case atStart => exact ⟨0, Nat.zero_le _, rfl, fun j e hj => by omega, Below.refl _ _⟩
  case round =>
    obtain ⟨i, hin, rfl, hno, hb0⟩ := hrel
    have HNO := Lib.hid hno
    have HB := Lib.hid hb0
    clear hno hb0
    by_cases hlt : i < n
    · obtain ⟨b, off, d, xs, rfl, hbw, hzi, hlie, hlen, hcell⟩ := (H.out.below HB.out).elem (fun x hx => (HT.out x hx).width) hlt
      obtain ⟨f0, f1, f2, f3, f4, f5, hd, rfl, hf5⟩ := invInstr (HT.out d (List.mem_of_getElem? hzi)) hlie
      have r0 : wr.cell? ⟨b, off + i * 6, none⟩ = some (.int .i64 f0) := hcell 0 _ rfl
      have r1 : wr.cell? ⟨b, off + i * 6 + 1, none⟩ = some (.int .i64 f1) := hcell 1 _ rfl
      have r2 : wr.cell? ⟨b, off + i * 6 + 2, none⟩ = some (.int .i64 f2) := hcell 2 _ rfl
      have r3 : wr.cell? ⟨b, off + i * 6 + 3, none⟩ = some (.int .i64 f3) := hcell 3 _ rfl
      have r4 : wr.cell? ⟨b, off + i * 6 + 4, none⟩ = some (.int .i64 f4) := hcell 4 _ rfl
      have r5 : wr.cell? ⟨b, off + i * 6 + 5, none⟩ = some (.string f5) := hcell 5 _ rfl
      have HZ := Lib.hid hzi
      have HD := Lib.hid hd
      clear hzi hcell hlie hd
      obtain ⟨v, hv⟩ : ∃ v, noInsD d = v := ⟨_, rfl⟩
      have HV := Lib.hid hv
      clear hv
      cases v with
      | true =>
        have HN := Lib.hid (idx_at HNO.out HZ.out HV.out)
        go_wp2_with fail
        refine (noIns d f0 f1 f2 f3 f4 f5 _ HD.out).mono ?_
        rintro e w2 ⟨rfl, hb⟩
        rw [HV.out]
        have HB2 := Lib.hid (HB.out.trans (hb.mono HB.out.size))
        clear hb
        go_wp2_with fail
        go_ret
        exact GivesInt.ret HN.out HB2.out
      | false =>
        have HN : Hid (∀ (j : Nat) (e : Dat), j < i + 1 → L[j]? = some e → noInsD e = false) := Lib.hid (fun j e hj hje => by
          by_cases hji : j < i
          · exact HNO.out j e hji hje
          · obtain rfl : j = i := by omega
            rw [HZ.out] at hje
            obtain rfl := Option.some.inj hje
            exact HV.out)
        go_wp2_with fail
        refine (noIns d f0 f1 f2 f3 f4 f5 _ HD.out).mono ?_
        rintro e w2 ⟨rfl, hb⟩
        rw [HV.out]
        have HB2 := Lib.hid (HB.out.trans (hb.mono HB.out.size))
        clear hb
        go_wp2_with fail
        go_roundw
        case rel => exact ⟨i + 1, by omega, by go_num, HN.out, HB2.out⟩
        case measure => simp [intOf]; omega
    · have HE := Lib.hid (idx_none (p := noInsD) (L := L) (fun j e hje => HNO.out j e (by have h1 := H.out.count; have := (List.getElem?_eq_some_iff.1 hje).1; omega) hje))
      go_wp2
      go_ret
      exact GivesInt.ret HE.out HB.out
set_option maxHeartbeats 1000000 in
theorem anyNo (L : List Dat) (A : Option Addr) (n c : Nat) (w : World) (h : Lies w (.l L) [.slice A n c]) (ht : ∀ x ∈ L, Has tyInstr x) (hn : n ≤ 9223372036854775807) :
    Calls Try.prog 65 #[.slice A n c, .func (.func 66) #[] #[]] w (GivesBool (L.any noInsD) w) := by
  have HA := Lib.hid (idx_any noInsD L)
  obtain ⟨r, hr⟩ : ∃ r, idx noInsD L = r := ⟨_, rfl⟩
  have HR := Lib.hid hr
  clear hr
  go_enter Try.func65, Try.ntmps65
  go_wp2_with fail
  refine (idxIns L A n c _ h ht hn).mono ?_
  rintro e w2 ⟨rfl, hb⟩
  rw [HR.out]
  have HB := Lib.hid hb
  clear hb
  go_wp2_with fail
  go_ret
  exact GivesBool.of (by rw [← HA.out, HR.out]) HB.out
theorem meth_val (nm : ByteArray) (L : List Dat) : (isName nm && decide (L.length ≤ 12) && !(L.any noInsD)) = isMeth (.r [.s nm, .l L]) := by
  show _ = (L.all isInsD && isName nm && decide (L.length ≤ 12))
  have e : (!(L.any noInsD)) = L.all isInsD := any_not_all isInsD L
  rw [← e]
  cases isName nm <;> cases decide (L.length ≤ 12) <;> cases L.any noInsD <;> rfl
/-- The argument's box of two cells. -/
def Boxed2 (w : World) (x y : Value) (w' : World) : Prop := Box w.heap.size [x, y] w' ∧ Below w.heap.size w w'
theorem Boxed2.mk_ (w : World) (x y : Value) (T : TypeId) : Boxed2 w x y (w.alloc (.cells #[x, y] T)) := ⟨Box.new w #[x, y] T, (Below.refl _ _).alloc (Nat.le_refl _) _⟩
theorem Boxed2.below {w w' w2 : World} {x y : Value} (h : Boxed2 w x y w') (hb : Below w'.heap.size w' w2) : Boxed2 w x y w2 := ⟨h.1.below hb, h.2.trans (hb.mono h.2.size)⟩
theorem Boxed2.two {w w' : World} {x y : Value} (h : Boxed2 w x y w') : w'.cell? ⟨w.heap.size, 0, none⟩ = some x ∧ w'.cell? ⟨w.heap.size, 1, none⟩ = some y := ⟨h.1.2 0 _ rfl, h.1.2 1 _ rfl⟩
theorem Boxed2.drew {w w' : World} {x y : Value} (h : Boxed2 w x y w') : Boxed2 w x y w'.drew := ⟨h.1.drew, h.2.drew⟩
set_option maxHeartbeats 4000000 in
theorem implMeth (nm : ByteArray) (L : List Dat) (A : Option Addr) (n c : Nat) (w : World) (h : Lies w (.l L) [.slice A n c]) (ht : ∀ x ∈ L, Has tyInstr x) (hn : n ≤ 9223372036854775807) : Calls Try.prog 27 #[.agg #[.string nm, .slice A n c]] w (GivesBool (isMeth (.r [.s nm, .l L])) w) := by
  have X0 : Hid (Boxed2 w (.string nm) (.slice A n c) (w.alloc (.cells #[.string nm, .slice A n c] 29))) := Lib.hid (Boxed2.mk_ w _ _ _)
  have H := Lib.hid h
  have HT := Lib.hid ht
  have hc := h.count
  have HE := Lib.hid (meth_val nm L)
  clear h ht
  subst hc
  obtain ⟨v, hv⟩ : ∃ v, isName nm = v := ⟨_, rfl⟩
  have HV := Lib.hid hv
  clear hv
  cases v with
  | false =>
    go_enter Try.func27, Try.ntmps27
    go_wp2_with fail
    refine (implName nm _).mono ?_
    rintro e w2 ⟨rfl, hb⟩
    rw [HV.out]
    have X2 := Lib.hid (X0.out.below hb)
    clear hb X0
    go_wp2_with fail
    go_ret
    exact GivesBool.of (by rw [← HE.out, HV.out]; rfl) X2.out.2
  | true =>
    by_cases h12 : L.length ≤ 12
    · go_enter Try.func27, Try.ntmps27
      go_wp2_with fail
      refine (implName nm _).mono ?_
      rintro e w2 ⟨rfl, hb⟩
      rw [HV.out]
      have X2 := Lib.hid (X0.out.below hb)
      clear hb X0
      obtain ⟨q0, q1⟩ := X2.out.two
      go_wp2_with fail
      refine (anyNo L A L.length c _ (H.out.below X2.out.2) HT.out hn).mono ?_
      rintro e w3 ⟨rfl, hb⟩
      have X3 := Lib.hid (X2.out.below hb)
      clear hb q0 q1 X2
      go_wp2_with fail
      go_ret
      exact GivesBool.of (by rw [← HE.out, HV.out]; simp [h12]) X3.out.2
    · go_enter Try.func27, Try.ntmps27
      go_wp2_with fail
      refine (implName nm _).mono ?_
      rintro e w2 ⟨rfl, hb⟩
      rw [HV.out]
      have X2 := Lib.hid (X0.out.below hb)
      clear hb X0
      obtain ⟨q0, q1⟩ := X2.out.two
      go_wp2_with fail
      go_ret
      exact GivesBool.of (by rw [← HE.out, HV.out]; simp [h12]) X2.out.2
end Go.Proofs.Ytaepconmjmcbdaa
