/- Draws of chapter 6: l6Library, l6Copy. -/
import Derived.Test.YthgcodbcafpmhaaGreatDoorDraw6A
import Derived.Test.YthgcodbcafpmhaaGreatDoorSpecS3
namespace Go.Proofs.YthgcodbcafpmhaaGreatDoor
open Go.RowKit
set_option linter.unusedVariables false
set_option linter.unusedSimpArgs false
def ScrD (d : Dat) : Prop := Has tyScript d ∧ d.bulk ≤ 2000
theorem scr_d {nm : ByteArray} {L : List Dat} (hn : nm.size ≤ 8) (h : MethsOk 6 L) : ScrD (.r [.s nm, .l L]) := by
  have h1 := bulk_sum (fun x hx => (h.2 x hx).2)
  have h2 := h.1
  refine ⟨?_, by simp only [Dat.bulk, bulkAll]; omega⟩
  simp only [tyScript, Has, HasAll]
  exact ⟨_, rfl, _, _, rfl, ⟨nm, rfl, by omega⟩, _, _, rfl, ⟨L, rfl, by omega, fun x hx => (h.2 x hx).1⟩, rfl⟩
def ScrsOk (m : Nat) (L : List Dat) : Prop := L.length ≤ m ∧ ∀ x ∈ L, ScrD x
theorem ScrsOk.more {m m' : Nat} {L : List Dat} (h : ScrsOk m L) (hm : m ≤ m') : ScrsOk m' L := ⟨Nat.le_trans h.1 hm, h.2⟩
theorem ScrsOk.add {m k : Nat} {L M : List Dat} (h : ScrsOk m L) (hM : ScrsOk k M) : ScrsOk (m + k) (L ++ M) := by
  refine ⟨by have := h.1; have := hM.1; simp; omega, fun x hx => ?_⟩
  rcases List.mem_append.1 hx with hx | hx
  · exact h.2 x hx
  · exact hM.2 x hx
theorem ScrsOk.one {d : Dat} (hd : ScrD d) : ScrsOk 1 [d] := ⟨Nat.le_refl _, fun x hx => by rw [List.mem_singleton.1 hx]; exact hd⟩
theorem ScrsOk.bulk {m : Nat} {L : List Dat} (h : ScrsOk m L) (hm : m ≤ 100) : (Dat.l L).bulk ≤ 1048576 := by
  have h1 := bulk_sum (fun x hx => (h.2 x hx).2)
  have h2 := h.1
  simp only [Dat.bulk]
  omega
/-- A literal of owned records, as a slice that may grow. -/
theorem Grow.lit {E : TypeId} {k lo m : Nat} {w : World} {L : List Dat} {B : Nat → Prop} (C : Array Value) (ho : OwnsAll w L C.toList B) (hL : L.length = m) (hk : ∀ x ∈ L, x.width = k) (hB : ∀ b, B b → b < w.heap.size) (hlo : lo ≤ w.heap.size) (hm : m ≤ 1000) :
    Grow E k lo (w.alloc (.cells C E)) (some ⟨w.heap.size, 0, none⟩) m m L B := by
  have hb : Below w.heap.size w (w.alloc (.cells C E)) := (Below.refl _ _).alloc (Nat.le_refl _) _
  have hC : C.toList.length = m * k := by rw [ho.lies.len, widthAll_of hk, hL]
  refine ⟨C.toList, ⟨hC, Or.inr ⟨w.heap.size, m, C, rfl, hlo, ?_, Nat.le_refl _, by unfold maxLen; omega, by simpa using hC, List.take_of_length_le (by omega)⟩⟩, ho.same (fun b hb2 hlt => hb.block b hlt), hL, hk, fun a e => ?_, fun b hb2 => Nat.lt_of_lt_of_le (hB b hb2) hb.size⟩
  · show (w.heap.push _)[w.heap.size]? = _
    simp
  · obtain rfl := Option.some.inj e
    exact ⟨fun h => by have := hB _ h; simp at this, by simp⟩
/-- A list of scripts was drawn: it may grow on. -/
def DrewL (Bc g m : Nat) (w : World) (e : Ending) (w' : World) : Prop := ∃ (A : Option Addr) (n c : Nat) (L : List Dat) (Bs : Nat → Prop), e = .returned (.slice A n c) ∧ Grow 44 2 w.heap.size w' A n c L Bs ∧ (∀ b, Bs b → w.heap.size ≤ b) ∧ ScrsOk m L ∧ Left Bc g w w'
theorem ownScr {E : TypeId} {lo : Nat} {w : World} {A : Option Addr} {n c : Nat} {L : List Dat} {Bs : Nat → Prop} {nm : ByteArray} (h : Grow E 2 lo w A n c L Bs) : Owns w (.r [.s nm, .l L]) [.string nm, .slice A n c] (fun b => (∃ a, A = some a ∧ b = a.block) ∨ Bs b) := ownScript h.owns
theorem ScrOk.d {m : Nat} {nm nm' : ByteArray} {L : List Dat} (h : ScrOk m nm nm' L) (hm : m ≤ 6) (hn : nm.size ≤ 8) : ScrD (.r [.s nm', .l L]) := scr_d (by rw [h.1]; exact hn) (h.2.more hm)
theorem AnyScr.d {nm : ByteArray} {L : List Dat} (h : AnyScr nm L) : ScrD (.r [.s nm, .l L]) := scr_d h.1 h.2
/-- What was drawn into blocks from lo on stays while the cursor turns. -/
theorem Owns.left {Bc g lo : Nat} {w w' : World} {d : Dat} {cs : List Value} {B : Nat → Prop} (h : Owns w d cs B) (hL : Left Bc g w w') (hB : ∀ b, B b → lo ≤ b) (hg : g < lo) : Owns w' d cs B := h.touch (Touch.of_turn hL.2) (fun b hb e => by have := hB b hb; omega)
set_option maxRecDepth 100000 in
set_option maxHeartbeats 8000000 in
theorem l6Library (Bc g : Nat) (w : World) (hc : Cur w Bc g) : Calls Tryz.prog 32 #[.pointer (some ⟨g, 0, none⟩)] w (DrewL Bc g 3 w) := by
  have hg := hc.lt
  have HC := Lib.hid hc
  clear hc
  go_enter Tryz.func32, Tryz.ntmps32
  go_wp2_with fail
  refine (l6Script Bc g ⟨#[99, 101, 108, 108]⟩ _ HC.out).mono ?_
  rintro e w1 ⟨m1, A1, n1, c1, L1, Bs1, rfl, hG1, hB1, hP1, hL1⟩
  have HG1 := Lib.hid hG1
  have HB1 := Lib.hid hB1
  have HD1 := Lib.hid (hP1.d (by omega) (by decide))
  have HL1 := Lib.hid hL1
  have hs1 := hL1.2.size
  clear hG1 hB1 hP1 hL1
  go_wp2_with fail
  refine (l6Script Bc g ⟨#[112, 114, 111, 120, 121]⟩ _ HL1.out.1).mono ?_
  rintro e w2 ⟨m2, A2, n2, c2, L2, Bs2, rfl, hG2, hB2, hP2, hL2⟩
  have HG2 := Lib.hid hG2
  have HB2 := Lib.hid hB2
  have HD2 := Lib.hid (hP2.d (by omega) (by decide))
  have HL2 := Lib.hid hL2
  have hs2 := hL2.2.size
  clear hG2 hB2 hP2 hL2
  go_wp2_with fail
  refine (l6Script Bc g ⟨#[109, 97, 107, 101, 114]⟩ _ HL2.out.1).mono ?_
  rintro e w3 ⟨m3, A3, n3, c3, L3, Bs3, rfl, hG3, hB3, hP3, hL3⟩
  have HG3 := Lib.hid hG3
  have HB3 := Lib.hid hB3
  have HD3 := Lib.hid (hP3.d (by omega) (by decide))
  have HL3 := Lib.hid hL3
  have hs3 := hL3.2.size
  clear hG3 hB3 hP3 hL3
  have a1 := Lib.hid (fun b h => HG1.out.all HB1.out b h)
  have a2 := Lib.hid (fun b h => HG2.out.all HB2.out b h)
  have a3 := Lib.hid (fun b h => HG3.out.all HB3.out b h)
  have o1 := Lib.hid (((ownScr (nm := m1) HG1.out).left HL2.out (fun b h => (a1.out b h).1) hg).left HL3.out (fun b h => (a1.out b h).1) hg)
  have o2 := Lib.hid ((ownScr (nm := m2) HG2.out).left HL3.out (fun b h => (a2.out b h).1) (by omega))
  have o3 := Lib.hid (ownScr (nm := m3) HG3.out)
  have O : Hid (OwnsAll w3 [.r [.s m1, .l L1], .r [.s m2, .l L2], .r [.s m3, .l L3]] (#[.string m1, .slice A1 n1 c1, .string m2, .slice A2 n2 c2, .string m3, .slice A3 n3 c3] : Array Value).toList (fun b => w.heap.size ≤ b ∧ b < w3.heap.size)) := Lib.hid (by
    rw [OwnsAll]
    refine ⟨_, [.string m2, .slice A2 n2 c2, .string m3, .slice A3 n3 c3], _, (fun b => w1.heap.size ≤ b ∧ b < w3.heap.size), rfl, fun b h => ?_, fun b h => ⟨by omega, h.2⟩, fun b h h2 => ?_, o1.out, ?_⟩
    · have := a1.out b h; omega
    · have := a1.out b h; omega
    · rw [OwnsAll]
      refine ⟨_, [.string m3, .slice A3 n3 c3], _, (fun b => w2.heap.size ≤ b ∧ b < w3.heap.size), rfl, fun b h => ?_, fun b h => ⟨by omega, h.2⟩, fun b h h2 => ?_, o2.out, ?_⟩
      · have := a2.out b h; omega
      · have := a2.out b h; omega
      · rw [OwnsAll]
        refine ⟨_, [], _, (fun _ => False), rfl, fun b h => ?_, fun b h => h.elim, fun b _ h => h, o3.out, by rw [OwnsAll]⟩
        have := a3.out b h; omega)
  have G := Lib.hid (Grow.lit (E := 44) (k := 2) (lo := w.heap.size) (m := 3) _ O.out rfl (fun x hx => by simp at hx; rcases hx with rfl | rfl | rfl <;> rfl) (fun b h => h.2) (by omega) (by omega))
  have F : Hid (Left Bc g w (w3.alloc (.cells #[.string m1, .slice A1 n1 c1, .string m2, .slice A2 n2 c2, .string m3, .slice A3 n3 c3] 44))) := Lib.hid ((HL1.out.trans HL2.out).trans (HL3.out.trans ⟨HL3.out.1.alloc' _, (Turn.refl g w3).alloc _⟩))
  have K : Hid (ScrsOk 3 [.r [.s m1, .l L1], .r [.s m2, .l L2], .r [.s m3, .l L3]]) := Lib.hid ((ScrsOk.one HD1.out).add ((ScrsOk.one HD2.out).add (ScrsOk.one HD3.out)))
  clear o1 o2 o3 a1 a2 a3 HG1 HG2 HG3 HB1 HB2 HB3 HD1 HD2 HD3 HL1 HL2 HL3 O
  go_wp2_with fail
  go_ret
  exact ⟨_, _, _, _, _, rfl, G.out, fun b h => h.1, K.out, F.out⟩
end Go.Proofs.YthgcodbcafpmhaaGreatDoor
