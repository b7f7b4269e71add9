/- The program's chapter 6: names; the first element of a name. -/
import Derived.Test.YtaepconmjmcbdaaImpI
import Derived.Test.YtaepconmjmcbdaaMText
import Derived.Deep.RegionHeld3
namespace Go.Proofs.Ytaepconmjmcbdaa
open Go.RowKit
set_option linter.unusedVariables false
set_option linter.unusedSimpArgs false
/-- The argument's box and the two captured variables. -/
def NSt (w : World) (f0 nm : ByteArray) (s : Value) (F : Value) (g1 g2 : Nat) (w' : World) : Prop := Box w.heap.size [.string f0, s] w' ∧ Box g1 [F] w' ∧ Box g2 [.string nm] w' ∧ Below w.heap.size w w'
section
variable {w w1 w2 : World} {f0 nm : ByteArray} {s F : Value} {g1 g2 : Nat}
theorem NSt.below (h : NSt w f0 nm s F g1 g2 w1) (hb : Below w1.heap.size w1 w2) : NSt w f0 nm s F g1 g2 w2 := ⟨h.1.below hb, h.2.1.below hb, h.2.2.1.below hb, h.2.2.2.trans (hb.mono h.2.2.2.size)⟩
theorem NSt.drew (h : NSt w f0 nm s F g1 g2 w1) : NSt w f0 nm s F g1 g2 w1.drew := h.below (Below.refl _ _).drew
theorem NSt.four (h : NSt w f0 nm s F g1 g2 w1) : w1.cell? ⟨w.heap.size, 0, none⟩ = some (.string f0) ∧ w1.cell? ⟨w.heap.size, 1, none⟩ = some s ∧ w1.cell? ⟨g1, 0, none⟩ = some F ∧ w1.cell? ⟨g2, 0, none⟩ = some (.string nm) :=
  ⟨h.1.2 0 _ rfl, h.1.2 1 _ rfl, h.2.1.2 0 _ rfl, h.2.2.1.2 0 _ rfl⟩
theorem NSt.mk_ (f0 : ByteArray) (s : Value) (T : TypeId) (h1 : Box g1 [F] w) (h2 : Box g2 [.string nm] w) : NSt w f0 nm s F g1 g2 (w.alloc (.cells #[.string f0, s] T)) :=
  ⟨Box.new w #[.string f0, s] T, h1.alloc _, h2.alloc _, (Below.refl _ _).alloc (Nat.le_refl _) _⟩
end
theorem named_yes {d : Dat} {nm : ByteArray} (h : nameOf d = nm) : true = named nm d := (decide_eq_true h).symm
theorem named_no {d : Dat} {nm : ByteArray} (h : ¬ nameOf d = nm) : false = named nm d := (decide_eq_false h).symm

set_option maxHeartbeats 1000000 in
theorem nameMethod (f0 : ByteArray) (A : Option Addr) (n c : Nat) (w : World) : Calls Try.prog 47 #[.agg #[.string f0, .slice A n c]] w (GivesT f0 w) := by
  go_enter Try.func47, Try.ntmps47
  go_wp2
  go_ret
  exact GivesT.ret rfl (by go_grown)
set_option maxHeartbeats 2000000 in
theorem hasNameMethod (d : Dat) (f0 nm : ByteArray) (A : Option Addr) (n c g1 g2 : Nat) (w : World) (hd : nameOf d = f0) (h1 : Box g1 [.func (.func 47) #[] #[]] w) (h2 : Box g2 [.string nm] w) :
    Calls Try.prog 79 #[.agg #[.string f0, .slice A n c], .pointer (some ⟨g1, 0, none⟩), .pointer (some ⟨g2, 0, none⟩)] w (GivesBool (named nm d) w) := by
  have X0 := Lib.hid (NSt.mk_ f0 (.slice A n c) 29 h1 h2).drew
  clear h1 h2
  by_cases he : f0 = nm
  · subst he
    have HE := Lib.hid (named_yes hd)
    clear hd
    go_enter Try.func79, Try.ntmps79
    go_wp2_with fail
    go_region_held3 (fun w' => w'.cell? ⟨w.heap.size, 0, none⟩ = some (.string f0) ∧ w'.cell? ⟨w.heap.size, 1, none⟩ = some (.slice A n c) ∧ w'.cell? ⟨g1, 0, none⟩ = some (.func (.func 47) #[] #[]) ∧ w'.cell? ⟨g2, 0, none⟩ = some (.string f0))
      (first | with_reducible exact X0.out.four | with_reducible exact X1.out.four)
      ((go_at_call 47; (with_reducible refine (nameMethod _ _ _ _ _).mono ?_); rintro e w5 ⟨rfl, hb5⟩; have X1 := Lib.hid (X0.out.below hb5); clear hb5))
    all_goals (
      go_wp2_with fail
      go_ret
      exact GivesBool.of (by first | exact HE.out | simpa using HE.out) X1.out.2.2.2)
  · have HE := Lib.hid (named_no (nm := nm) (d := d) (by rw [hd]; exact he))
    have he1 := bytes_ne he
    have he2 := bytes_neb he
    clear hd he
    go_enter Try.func79, Try.ntmps79
    go_wp2_with fail
    go_region_held3 (fun w' => w'.cell? ⟨w.heap.size, 0, none⟩ = some (.string f0) ∧ w'.cell? ⟨w.heap.size, 1, none⟩ = some (.slice A n c) ∧ w'.cell? ⟨g1, 0, none⟩ = some (.func (.func 47) #[] #[]) ∧ w'.cell? ⟨g2, 0, none⟩ = some (.string nm))
      (first | with_reducible exact X0.out.four | with_reducible exact X1.out.four)
      ((go_at_call 47; (with_reducible refine (nameMethod _ _ _ _ _).mono ?_); rintro e w5 ⟨rfl, hb5⟩; have X1 := Lib.hid (X0.out.below hb5); clear hb5))
    all_goals (
      go_wp2_with fail
      go_ret
      exact GivesBool.of (by first | exact HE.out | simpa [he1, he2] using HE.out) X1.out.2.2.2)
set_option maxHeartbeats 2000000 in
theorem idxMethod (L : List Dat) (A : Option Addr) (n c g1 g2 : Nat) (nm : ByteArray) (w : World) (h : Lies w (.l L) [.slice A n c]) (ht : ∀ x ∈ L, Has tyMethod x) (hn : n ≤ 9223372036854775807) (h1 : Box g1 [.func (.func 47) #[] #[]] w) (h2 : Box g2 [.string nm] w) :
    Calls Try.prog 78 #[.slice A n c, .func (.func 79) #[] #[.pointer (some ⟨g1, 0, none⟩), .pointer (some ⟨g2, 0, none⟩)]] w (GivesInt (idx (named nm) L) w) := by
  have H := Lib.hid h
  have HT := Lib.hid ht
  have H1 := Lib.hid h1
  have H2 := Lib.hid h2
  clear h ht h1 h2
  go_enter Try.func78, Try.ntmps78
  go_wp2
  go_loopw [8] (fun iv wr => ∃ i : Nat, i ≤ n ∧ iv = .int .i64 i ∧ (∀ (j : Nat) (e : Dat), j < i → L[j]? = some e → named nm e = false) ∧ Below w.heap.size w wr) (fun iv _ => n - (intOf iv).toNat)
  case atStart => exact ⟨0, Nat.zero_le _, rfl, fun j e hj => by omega, Below.refl _ _⟩
  case round =>
    obtain ⟨i, hin, rfl, hno, hb0⟩ := hrel
    have HNO := Lib.hid hno
    have HB := Lib.hid hb0
    clear hno hb0
    by_cases hlt : i < n
    · obtain ⟨b, off, d, xs, rfl, hbw, hzi, hlie, hlen, hcell⟩ := (H.out.below HB.out).elem (fun x hx => (HT.out x hx).width) hlt
      obtain ⟨f0, L1, A1, n1, c1, hd, rfl, hf0, hl1, ht1, hm1⟩ := invMethod (HT.out d (List.mem_of_getElem? hzi)) hlie
      have r0 : wr.cell? ⟨b, off + i * 2, none⟩ = some (.string f0) := hcell 0 _ rfl
      have r1 : wr.cell? ⟨b, off + i * 2 + 1, none⟩ = some (.slice A1 n1 c1) := hcell 1 _ rfl
      have HZ := Lib.hid hzi
      have HD : Hid (nameOf d = f0) := Lib.hid (by rw [hd]; rfl)
      clear hzi hcell hlie hd hl1 ht1
      obtain ⟨v, hv⟩ : ∃ v, named nm d = v := ⟨_, rfl⟩
      have HV := Lib.hid hv
      clear hv
      cases v with
      | true =>
        have HN := Lib.hid (idx_at HNO.out HZ.out HV.out)
        go_wp2_with fail
        refine (hasNameMethod d f0 nm A1 n1 c1 g1 g2 _ HD.out (H1.out.below HB.out) (H2.out.below HB.out)).mono ?_
        rintro e w2 ⟨rfl, hb⟩
        rw [HV.out]
        have HB2 := Lib.hid (HB.out.trans (hb.mono HB.out.size))
        clear hb
        go_wp2_with fail
        go_ret
        exact GivesInt.ret HN.out HB2.out
      | false =>
        have HN : Hid (∀ (j : Nat) (e : Dat), j < i + 1 → L[j]? = some e → named nm e = false) := Lib.hid (fun j e hj hje => by
          by_cases hji : j < i
          · exact HNO.out j e hji hje
          · obtain rfl : j = i := by omega
            rw [HZ.out] at hje
            obtain rfl := Option.some.inj hje
            exact HV.out)
        go_wp2_with fail
        refine (hasNameMethod d f0 nm A1 n1 c1 g1 g2 _ HD.out (H1.out.below HB.out) (H2.out.below HB.out)).mono ?_
        rintro e w2 ⟨rfl, hb⟩
        rw [HV.out]
        have HB2 := Lib.hid (HB.out.trans (hb.mono HB.out.size))
        clear hb
        go_wp2_with fail
        go_roundw
        case rel => exact ⟨i + 1, by omega, by go_num, HN.out, HB2.out⟩
        case measure => simp [intOf]; omega
    · have HE := Lib.hid (idx_none (p := named nm) (L := L) (fun j e hje => HNO.out j e (by have h1 := H.out.count; have := (List.getElem?_eq_some_iff.1 hje).1; omega) hje))
      go_wp2
      go_ret
      exact GivesInt.ret HE.out HB.out
set_option maxHeartbeats 1000000 in
theorem firstMethod (L : List Dat) (A : Option Addr) (n c : Nat) (nm : ByteArray) (r : Int) (w : World) (h : Lies w (.l L) [.slice A n c]) (ht : ∀ x ∈ L, Has tyMethod x) (hn : n ≤ 9223372036854775807) (hr : find L nm = r) :
    Calls Try.prog 46 #[.slice A n c, .func (.func 47) #[] #[], .string nm] w (GivesInt r w) := by
  have B0 : Hid (∀ o1 o2, Below w.heap.size w ((w.alloc o1).alloc o2)) := Lib.hid (fun o1 o2 => by go_grown)
  have C1 : Hid (∀ o1 T, Box (w.heap.size + 1) [.string nm] ((w.alloc o1).alloc (.cells #[.string nm] T))) := Lib.hid (fun o1 T => by have := Box.new (w.alloc o1) #[.string nm] T; rw [World.size_alloc] at this; exact this)
  have C0 : Hid (∀ o2 T, Box w.heap.size [.func (.func 47) #[] #[]] ((w.alloc (.cells #[.func (.func 47) #[] #[]] T)).alloc o2)) := Lib.hid (fun o2 T => (Box.new w #[.func (.func 47) #[] #[]] T).alloc o2)
  have H := Lib.hid h
  have HT := Lib.hid ht
  have HR : Hid (idx (named nm) L = r) := Lib.hid (by rw [find_idx]; exact hr)
  clear h ht hr
  go_enter Try.func46, Try.ntmps46
  go_wp2_with fail
  refine (idxMethod L A n c w.heap.size (w.heap.size + 1) nm _ (H.out.below (B0.out _ _)) HT.out hn (C0.out _ _) (C1.out _ _)).mono ?_
  rintro e w2 ⟨rfl, hb⟩
  rw [HR.out]
  have HB := Lib.hid ((B0.out _ _).trans (hb.mono (B0.out _ _).size))
  clear hb
  go_wp2_with fail
  go_ret
  exact GivesInt.ret rfl HB.out

set_option maxHeartbeats 1000000 in
theorem nameScript (f0 : ByteArray) (A : Option Addr) (n c : Nat) (w : World) : Calls Try.prog 58 #[.agg #[.string f0, .slice A n c]] w (GivesT f0 w) := by
  go_enter Try.func58, Try.ntmps58
  go_wp2
  go_ret
  exact GivesT.ret rfl (by go_grown)
set_option maxHeartbeats 2000000 in
theorem hasNameScript (d : Dat) (f0 nm : ByteArray) (A : Option Addr) (n c g1 g2 : Nat) (w : World) (hd : nameOf d = f0) (h1 : Box g1 [.func (.func 58) #[] #[]] w) (h2 : Box g2 [.string nm] w) :
    Calls Try.prog 94 #[.agg #[.string f0, .slice A n c], .pointer (some ⟨g1, 0, none⟩), .pointer (some ⟨g2, 0, none⟩)] w (GivesBool (named nm d) w) := by
  have X0 := Lib.hid (NSt.mk_ f0 (.slice A n c) 34 h1 h2).drew
  clear h1 h2
  by_cases he : f0 = nm
  · subst he
    have HE := Lib.hid (named_yes hd)
    clear hd
    go_enter Try.func94, Try.ntmps94
    go_wp2_with fail
    go_region_held3 (fun w' => w'.cell? ⟨w.heap.size, 0, none⟩ = some (.string f0) ∧ w'.cell? ⟨w.heap.size, 1, none⟩ = some (.slice A n c) ∧ w'.cell? ⟨g1, 0, none⟩ = some (.func (.func 58) #[] #[]) ∧ w'.cell? ⟨g2, 0, none⟩ = some (.string f0))
      (first | with_reducible exact X0.out.four | with_reducible exact X1.out.four)
      ((go_at_call 58; (with_reducible refine (nameScript _ _ _ _ _).mono ?_); rintro e w5 ⟨rfl, hb5⟩; have X1 := Lib.hid (X0.out.below hb5); clear hb5))
    all_goals (
      go_wp2_with fail
      go_ret
      exact GivesBool.of (by first | exact HE.out | simpa using HE.out) X1.out.2.2.2)
  · have HE := Lib.hid (named_no (nm := nm) (d := d) (by rw [hd]; exact he))
    have he1 := bytes_ne he
    have he2 := bytes_neb he
    clear hd he
    go_enter Try.func94, Try.ntmps94
    go_wp2_with fail
    go_region_held3 (fun w' => w'.cell? ⟨w.heap.size, 0, none⟩ = some (.string f0) ∧ w'.cell? ⟨w.heap.size, 1, none⟩ = some (.slice A n c) ∧ w'.cell? ⟨g1, 0, none⟩ = some (.func (.func 58) #[] #[]) ∧ w'.cell? ⟨g2, 0, none⟩ = some (.string nm))
      (first | with_reducible exact X0.out.four | with_reducible exact X1.out.four)
      ((go_at_call 58; (with_reducible refine (nameScript _ _ _ _ _).mono ?_); rintro e w5 ⟨rfl, hb5⟩; have X1 := Lib.hid (X0.out.below hb5); clear hb5))
    all_goals (
      go_wp2_with fail
      go_ret
      exact GivesBool.of (by first | exact HE.out | simpa [he1, he2] using HE.out) X1.out.2.2.2)
set_option maxHeartbeats 2000000 in
theorem idxScript (L : List Dat) (A : Option Addr) (n c g1 g2 : Nat) (nm : ByteArray) (w : World) (h : Lies w (.l L) [.slice A n c]) (ht : ∀ x ∈ L, Has tyScript x) (hn : n ≤ 9223372036854775807) (h1 : Box g1 [.func (.func 58) #[] #[]] w) (h2 : Box g2 [.string nm] w) :
    Calls Try.prog 93 #[.slice A n c, .func (.func 94) #[] #[.pointer (some ⟨g1, 0, none⟩), .pointer (some ⟨g2, 0, none⟩)]] w (GivesInt (idx (named nm) L) w) := by
  have H := Lib.hid h
  have HT := Lib.hid ht
  have H1 := Lib.hid h1
  have H2 := Lib.hid h2
  clear h ht h1 h2
  go_enter Try.func93, Try.ntmps93
  go_wp2
  go_loopw [8] (fun iv wr => ∃ i : Nat, i ≤ n ∧ iv = .int .i64 i ∧ (∀ (j : Nat) (e : Dat), j < i → L[j]? = some e → named nm e = false) ∧ Below w.heap.size w wr) (fun iv _ => n - (intOf iv).toNat)
  case atStart => exact ⟨0, Nat.zero_le _, rfl, fun j e hj => by omega, Below.refl _ _⟩
  case round =>
    obtain ⟨i, hin, rfl, hno, hb0⟩ := hrel
    have HNO := Lib.hid hno
    have HB := Lib.hid hb0
    clear hno hb0
    by_cases hlt : i < n
    · obtain ⟨b, off, d, xs, rfl, hbw, hzi, hlie, hlen, hcell⟩ := (H.out.below HB.out).elem (fun x hx => (HT.out x hx).width) hlt
      obtain ⟨f0, L1, A1, n1, c1, hd, rfl, hf0, hl1, ht1, hm1⟩ := invScript (HT.out d (List.mem_of_getElem? hzi)) hlie
      have r0 : wr.cell? ⟨b, off + i * 2, none⟩ = some (.string f0) := hcell 0 _ rfl
      have r1 : wr.cell? ⟨b, off + i * 2 + 1, none⟩ = some (.slice A1 n1 c1) := hcell 1 _ rfl
      have HZ := Lib.hid hzi
      have HD : Hid (nameOf d = f0) := Lib.hid (by rw [hd]; rfl)
      clear hzi hcell hlie hd hl1 ht1
      obtain ⟨v, hv⟩ : ∃ v, named nm d = v := ⟨_, rfl⟩
      have HV := Lib.hid hv
      clear hv
      cases v with
      | true =>
        have HN := Lib.hid (idx_at HNO.out HZ.out HV.out)
        go_wp2_with fail
        refine (hasNameScript d f0 nm A1 n1 c1 g1 g2 _ HD.out (H1.out.below HB.out) (H2.out.below HB.out)).mono ?_
        rintro e w2 ⟨rfl, hb⟩
        rw [HV.out]
        have HB2 := Lib.hid (HB.out.trans (hb.mono HB.out.size))
        clear hb
        go_wp2_with fail
        go_ret
        exact GivesInt.ret HN.out HB2.out
      | false =>
        have HN : Hid (∀ (j : Nat) (e : Dat), j < i + 1 → L[j]? = some e → named nm e = false) := Lib.hid (fun j e hj hje => by
          by_cases hji : j < i
          · exact HNO.out j e hji hje
          · obtain rfl : j = i := by omega
            rw [HZ.out] at hje
            obtain rfl := Option.some.inj hje
            exact HV.out)
        go_wp2_with fail
        refine (hasNameScript d f0 nm A1 n1 c1 g1 g2 _ HD.out (H1.out.below HB.out) (H2.out.below HB.out)).mono ?_
        rintro e w2 ⟨rfl, hb⟩
        rw [HV.out]
        have HB2 := Lib.hid (HB.out.trans (hb.mono HB.out.size))
        clear hb
        go_wp2_with fail
        go_roundw
        case rel => exact ⟨i + 1, by omega, by go_num, HN.out, HB2.out⟩
        case measure => simp [intOf]; omega
    · have HE := Lib.hid (idx_none (p := named nm) (L := L) (fun j e hje => HNO.out j e (by have h1 := H.out.count; have := (List.getElem?_eq_some_iff.1 hje).1; omega) hje))
      go_wp2
      go_ret
      exact GivesInt.ret HE.out HB.out
set_option maxHeartbeats 1000000 in
theorem firstScript (L : List Dat) (A : Option Addr) (n c : Nat) (nm : ByteArray) (r : Int) (w : World) (h : Lies w (.l L) [.slice A n c]) (ht : ∀ x ∈ L, Has tyScript x) (hn : n ≤ 9223372036854775807) (hr : find L nm = r) :
    Calls Try.prog 71 #[.slice A n c, .func (.func 58) #[] #[], .string nm] w (GivesInt r w) := by
  have B0 : Hid (∀ o1 o2, Below w.heap.size w ((w.alloc o1).alloc o2)) := Lib.hid (fun o1 o2 => by go_grown)
  have C1 : Hid (∀ o1 T, Box (w.heap.size + 1) [.string nm] ((w.alloc o1).alloc (.cells #[.string nm] T))) := Lib.hid (fun o1 T => by have := Box.new (w.alloc o1) #[.string nm] T; rw [World.size_alloc] at this; exact this)
  have C0 : Hid (∀ o2 T, Box w.heap.size [.func (.func 58) #[] #[]] ((w.alloc (.cells #[.func (.func 58) #[] #[]] T)).alloc o2)) := Lib.hid (fun o2 T => (Box.new w #[.func (.func 58) #[] #[]] T).alloc o2)
  have H := Lib.hid h
  have HT := Lib.hid ht
  have HR : Hid (idx (named nm) L = r) := Lib.hid (by rw [find_idx]; exact hr)
  clear h ht hr
  go_enter Try.func71, Try.ntmps71
  go_wp2_with fail
  refine (idxScript L A n c w.heap.size (w.heap.size + 1) nm _ (H.out.below (B0.out _ _)) HT.out hn (C0.out _ _) (C1.out _ _)).mono ?_
  rintro e w2 ⟨rfl, hb⟩
  rw [HR.out]
  have HB := Lib.hid ((B0.out _ _).trans (hb.mono (B0.out _ _).size))
  clear hb
  go_wp2_with fail
  go_ret
  exact GivesInt.ret rfl HB.out

set_option maxHeartbeats 1000000 in
theorem implFind (L : List Dat) (A : Option Addr) (n c : Nat) (nm : ByteArray) (w : World) (h : Lies w (.l L) [.slice A n c]) (ht : ∀ x ∈ L, Has tyScript x) (hn : n ≤ 9223372036854775807) : Calls Try.prog 36 #[.slice A n c, .string nm] w (GivesInt (find L nm) w) := by
  go_enter Try.func36, Try.ntmps36
  go_wp2_with fail
  refine (firstScript L A n c nm _ _ h ht hn rfl).mono ?_
  rintro e w2 ⟨rfl, hb⟩
  have HB := Lib.hid hb
  clear hb
  go_wp2_with fail
  go_ret
  exact GivesInt.ret rfl HB.out
end Go.Proofs.Ytaepconmjmcbdaa
