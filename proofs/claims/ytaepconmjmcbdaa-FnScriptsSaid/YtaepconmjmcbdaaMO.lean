/- Chapter 6, both sides: MethodOf. -/
import Derived.Test.YtaepconmjmcbdaaImpC
import Derived.Test.YtaepconmjmcbdaaNam
namespace Go.Proofs.Ytaepconmjmcbdaa
open Go.RowKit
set_option linter.unusedVariables false
set_option linter.unusedSimpArgs false
/-- A method's name, its code, and whether it is there. -/
structure MO where
  name : ByteArray
  code : List Dat
  ok : Bool
def noMO : MO := ⟨⟨#[]⟩, [], false⟩
def pick (L : List Dat) (r : Int) : MO := match L[r.toNat]? with
  | some m => if 0 ≤ r then ⟨nameOf m, codeOf m, true⟩ else noMO
  | none => noMO
def methOf (L : List Dat) (i : Int) (nm : ByteArray) : MO := if inR i 0 ((L.length : Int) - 1) then
    match L[i.toNat]? with
    | some s => pick (codeOf s) (find (codeOf s) nm)
    | none => noMO
  else noMO
theorem methOf_out {L : List Dat} {i : Int} {nm : ByteArray} (h : inR i 0 ((L.length : Int) - 1) = false) : methOf L i nm = noMO := by rw [methOf, h]; rfl
theorem methOf_in {L : List Dat} {k : Nat} {nm : ByteArray} {s : Dat} (h : L[k]? = some s) : methOf L (k : Int) nm = pick (codeOf s) (find (codeOf s) nm) := by
  have hk := (List.getElem?_eq_some_iff.1 h).1
  rw [methOf, show inR (k : Int) 0 ((L.length : Int) - 1) = true from decide_eq_true ⟨by omega, by omega⟩, if_pos rfl, Int.toNat_natCast, h]
theorem pick_no (L : List Dat) : pick L (-1) = noMO := by
  rw [pick]
  split <;> rfl
theorem pick_at {L : List Dat} {j : Nat} {m : Dat} (h : L[j]? = some m) : pick L (j : Int) = ⟨nameOf m, codeOf m, true⟩ := by
  rw [pick, Int.toNat_natCast, h]
  exact if_pos (by omega)
/-- It comes back, its code owned. -/
def GivesMO (r : MO) (w : World) (e : Ending) (w' : World) : Prop := ∃ A n c, e = .returned (.tuple #[.agg #[.string r.name, .slice A n c], .bool r.ok]) ∧ Owns w' (.l r.code) [.slice A n c] (fun b => w.heap.size ≤ b ∧ b < w'.heap.size) ∧ Below w.heap.size w w'
theorem owns_nil (w : World) (B : Nat → Prop) : Owns w (.l []) [.slice none 0 0] B := by rw [Owns]; exact ⟨none, 0, 0, rfl, rfl, Or.inl rfl⟩
theorem GivesMO.none_ {r : MO} {w w' : World} (h : r = noMO) (hb : Below w.heap.size w w') : GivesMO r w (.returned (.tuple #[.agg #[.string ⟨#[]⟩, .slice none 0 0], .bool false])) w' := by
  subst h
  exact ⟨none, 0, 0, rfl, owns_nil _ _, hb⟩
theorem GivesMO.some_ {r : MO} {w w2 w3 : World} {f0 : ByteArray} {C : List Dat} {A : Option Addr} {n c : Nat} (h : r = ⟨f0, C, true⟩) (hO : Owns w3 (.l C) [.slice A n c] (fun b => w2.heap.size ≤ b ∧ b < w3.heap.size)) (h2 : w.heap.size < w2.heap.size) (hb : Below w.heap.size w w3) (u v : Value) :
    GivesMO r w (.returned (.tuple #[.agg #[.string f0, .slice A n c], .bool true])) ((w3.setCell ⟨w.heap.size, 0, none⟩ u).setCell ⟨w.heap.size, 1, none⟩ v) := by
  subst h
  have ht : Touch (fun b => b = w.heap.size) w3 ((w3.setCell ⟨w.heap.size, 0, none⟩ u).setCell ⟨w.heap.size, 1, none⟩ v) := ((Touch.refl (fun b => b = w.heap.size) w3).setCell (p := ⟨w.heap.size, 0, none⟩) rfl u).setCell (p := ⟨w.heap.size, 1, none⟩) rfl v
  refine ⟨A, n, c, rfl, (hO.touch ht (fun b hb e => by subst e; omega)).mono (fun b hb => ?_), hb.trans (ht.below (fun b e => by subst e; exact Nat.le_refl _) hb.size)⟩
  have := ht.size
  omega
theorem zb_start (w : World) : Zb w.heap.size w.heap.size [.string ⟨#[]⟩, .slice none 0 0] (w.alloc (.cells #[.string ⟨#[]⟩, .slice none 0 0] 29)) := Zb.new w #[.string ⟨#[]⟩, .slice none 0 0] 29 (Nat.le_refl _)
theorem code_bulk {d : Dat} {f0 : ByteArray} {L : List Dat} (hd : d = .r [.s f0, .l L]) (h : d.bulk ≤ 1099511627776) : (Dat.l L).bulk ≤ 1099511627776 := by
  subst hd
  simp only [Dat.bulk, bulkAll] at h ⊢
  omega
theorem elem_bulk {L : List Dat} {j : Nat} {d : Dat} (h : L[j]? = some d) (hq : (Dat.l L).bulk ≤ 1099511627776) : d.bulk ≤ 1099511627776 := by
  have h1 := bulk_mem (List.mem_of_getElem? h)
  simp only [Dat.bulk] at hq
  omega
theorem count_bulk {L : List Dat} {n : Nat} (h : L.length = n) (hq : (Dat.l L).bulk ≤ 1099511627776) : n ≤ 1099511627776 := by
  simp only [Dat.bulk] at hq
  omega
theorem implFirst (L : List Dat) (A : Option Addr) (n c : Nat) (nm : ByteArray) (w : World) (r : Int) (h : Lies w (.l L) [.slice A n c]) (ht : ∀ x ∈ L, Has tyMethod x) (hn : n ≤ 9223372036854775807) (hr : find L nm = r) :
    Calls Try.prog 46 #[.slice A n c, .func (.func 47) #[] #[], .string nm] w (GivesInt r w) := firstMethod L A n c nm r w h ht hn hr
set_option maxRecDepth 100000 in
set_option maxHeartbeats 8000000 in
theorem implMO (L : List Dat) (A : Option Addr) (n c : Nat) (i : Int) (nm : ByteArray) (w : World) (h : Lies w (.l L) [.slice A n c]) (ht : ∀ x ∈ L, Has tyScript x) (hq : (Dat.l L).bulk ≤ 1099511627776) :
    Calls Try.prog 13 #[.slice A n c, .int .i64 i, .string nm] w (GivesMO (methOf L i nm) w) := by
  have hn := count_bulk h.count hq
  have Z0 := Lib.hid (zb_start w)
  have B0 : Hid (Below w.heap.size w (w.alloc (.cells #[.string ⟨#[]⟩, .slice none 0 0] 29))) := Lib.hid (by go_grown)
  obtain ⟨z0, z1, y0, y1⟩ := Z0.out.two
  have H := Lib.hid h
  have HC := Lib.hid h.count
  have HT := Lib.hid ht
  have HQ := Lib.hid hq
  clear h ht hq
  obtain ⟨v, hv⟩ : ∃ v, inR i 0 ((n : Int) - 1) = v := ⟨_, rfl⟩
  cases v with
  | false =>
    have HN : Hid (methOf L i nm = noMO) := Lib.hid (methOf_out (by rw [HC.out]; exact hv))
    have HV := Lib.hid hv
    clear hv
    go_enter Try.func13, Try.ntmps13
    go_wp2_with fail
    refine (implInR i 0 ((n : Int) - 1) _).mono ?_
    rintro e w2 ⟨rfl, rfl⟩
    rw [HV.out]
    go_wp2_with fail
    refine bodyPost_ret (v := .tuple #[.agg #[.string ⟨#[]⟩, .slice none 0 0], .bool false]) (by simp [results, Try.results13, go_sem, z0, z1]; try rfl) rfl ?_
    exact GivesMO.none_ HN.out (by go_grown)
  | true =>
    have hin : 0 ≤ i ∧ i ≤ (n : Int) - 1 := by simpa [inR] using hv
    obtain ⟨k, rfl⟩ : ∃ k : Nat, i = k := ⟨i.toNat, by omega⟩
    have hk : k < n := by omega
    have HV := Lib.hid hv
    clear hv
    obtain ⟨b, off, d, xs, rfl, hbw, hzi, hlie, hlen, hcell⟩ := (H.out.below B0.out).elem (fun x hx => (HT.out x hx).width) hk
    obtain ⟨f0, L1, A1, n1, c1, hd, rfl, hf0, hl1, ht1, hm1⟩ := invScript (HT.out d (List.mem_of_getElem? hzi)) hlie
    have r0 : (w.alloc (.cells #[.string ⟨#[]⟩, .slice none 0 0] 29)).cell? ⟨b, off + k * 2, none⟩ = some (.string f0) := hcell 0 _ rfl
    have r1 : (w.alloc (.cells #[.string ⟨#[]⟩, .slice none 0 0] 29)).cell? ⟨b, off + k * 2 + 1, none⟩ = some (.slice A1 n1 c1) := hcell 1 _ rfl
    have HM : Hid (methOf L (k : Int) nm = pick L1 (find L1 nm)) := Lib.hid (by rw [methOf_in hzi, hd]; rfl)
    have HQ1 := Lib.hid (code_bulk hd (elem_bulk hzi HQ.out))
    have HL1 := Lib.hid hl1
    have HT1 := Lib.hid ht1
    have hk0 : (0 : Int) ≤ k := by omega
    have hk1 : (k : Int) < n := by omega
    clear hzi hlie hcell hl1 ht1 hd hin
    rcases idx_cases (named nm) L1 with ⟨hno, -⟩ | ⟨j, m, hjm, hm, -, hjl⟩
    · rw [find_idx] at hno
      have HN : Hid (methOf L (k : Int) nm = noMO) := Lib.hid (by rw [HM.out, hno, pick_no])
      have HNO := Lib.hid hno
      clear hno
      go_enter Try.func13, Try.ntmps13
      go_wp2_with fail
      refine (implInR (k : Int) 0 ((n : Int) - 1) _).mono ?_
      rintro e w2 ⟨rfl, rfl⟩
      rw [HV.out]
      go_wp2_with fail
      refine (implFirst L1 A1 n1 c1 nm _ _ HL1.out HT1.out hm1 HNO.out).mono ?_
      rintro e w2 ⟨rfl, hb⟩
      have Z2 := Lib.hid (Z0.out.below hb)
      have B2 := Lib.hid (B0.out.trans (hb.mono B0.out.size))
      clear hb z0 z1 y0 y1 r0 r1
      obtain ⟨z0, z1, y0, y1⟩ := Z2.out.two
      go_wp2_with fail
      have q : Box w.heap.size [.string ⟨#[]⟩, .slice none 0 0] ((w2.setCell ⟨w.heap.size, 0, none⟩ (.string ⟨#[]⟩)).setCell ⟨w.heap.size, 1, none⟩ (.slice none 0 0)) := Z2.out.2.1.two _ _
      have q0 := q.2 0 _ rfl
      have q1 := q.2 1 _ rfl
      refine bodyPost_ret (v := .tuple #[.agg #[.string ⟨#[]⟩, .slice none 0 0], .bool false]) (by simp [results, Try.results13, go_sem, q0, q1]; try rfl) rfl ?_
      exact GivesMO.none_ HN.out ((B2.out.setCell (p := ⟨w.heap.size, 0, none⟩) (Nat.le_refl _) _).setCell (p := ⟨w.heap.size, 1, none⟩) (Nat.le_refl _) _)
    · rw [find_idx] at hjm
      have HJ := Lib.hid hjm
      have HN : Hid (methOf L (k : Int) nm = ⟨nameOf m, codeOf m, true⟩) := Lib.hid (by rw [HM.out, hjm, pick_at hm])
      have HZM := Lib.hid hm
      have hjn : j < n1 := by rw [← HL1.out.count]; exact hjl
      clear hjm hm hjl
      go_enter Try.func13, Try.ntmps13
      go_wp2_with fail
      refine (implInR (k : Int) 0 ((n : Int) - 1) _).mono ?_
      rintro e w2 ⟨rfl, rfl⟩
      rw [HV.out]
      go_wp2_with fail
      refine (implFirst L1 A1 n1 c1 nm _ _ HL1.out HT1.out hm1 HJ.out).mono ?_
      rintro e w2 ⟨rfl, hb⟩
      have Z2 := Lib.hid (Z0.out.below hb)
      have B2 := Lib.hid (B0.out.trans (hb.mono B0.out.size))
      have hlt2 : w.heap.size < w2.heap.size := Z2.out.2.1.1
      obtain ⟨b2, off2, m', xs2, rfl, hbw2, hz2, hlie2, hlen2, hcell2⟩ := (HL1.out.below hb).elem (fun x hx => (HT1.out x hx).width) hjn
      obtain rfl : m' = m := by rw [HZM.out] at hz2; exact (Option.some.inj hz2).symm
      obtain ⟨g0, C, A2, n2, c2, hdm, rfl, hg0, hl2, ht2, hm2⟩ := invMethod (HT1.out _ (List.mem_of_getElem? hz2)) hlie2
      have s0 : w2.cell? ⟨b2, off2 + j * 2, none⟩ = some (.string g0) := hcell2 0 _ rfl
      have s1 : w2.cell? ⟨b2, off2 + j * 2 + 1, none⟩ = some (.slice A2 n2 c2) := hcell2 1 _ rfl
      have hn2 : n2 ≤ 1099511627776 := count_bulk hl2.count (code_bulk hdm (elem_bulk hz2 HQ1.out))
      have HNN : Hid (methOf L (k : Int) nm = ⟨g0, C, true⟩) := Lib.hid (by rw [HN.out, hdm]; rfl)
      have HL2 := Lib.hid hl2
      have HT2 := Lib.hid ht2
      have hj0 : (0 : Int) ≤ j := by omega
      have hj1 : (j : Int) < n1 := by omega
      clear hb z0 z1 y0 y1 r0 r1 hz2 hlie2 hcell2 hl2 ht2 hdm
      go_wp2_with fail
      refine (implCopy g0 C A2 n2 c2 _ HL2.out HT2.out hn2).mono ?_
      rintro e w3 ⟨A3, n3, c3, rfl, hO, hb3⟩
      have HO := Lib.hid hO
      have Z3 := Lib.hid (Z2.out.below hb3)
      have B3 := Lib.hid (B2.out.trans (hb3.mono B2.out.size))
      clear hO hb3 s0 s1
      obtain ⟨z0, z1, y0, y1⟩ := Z3.out.two
      go_wp2_with fail
      have q : Box w.heap.size [.string g0, .slice A3 n3 c3] ((w3.setCell ⟨w.heap.size, 0, none⟩ (.string g0)).setCell ⟨w.heap.size, 1, none⟩ (.slice A3 n3 c3)) := Z3.out.2.1.two _ _
      have q0 := q.2 0 _ rfl
      have q1 := q.2 1 _ rfl
      have HF := Lib.hid (GivesMO.some_ HNN.out HO.out hlt2 B3.out (.string g0) (.slice A3 n3 c3))
      clear q
      refine bodyPost_ret (v := .tuple #[.agg #[.string g0, .slice A3 n3 c3], .bool true]) (by simp [results, Try.results13, go_sem, q0, q1]; try rfl) rfl ?_
      exact HF.out
end Go.Proofs.Ytaepconmjmcbdaa
