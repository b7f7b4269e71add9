/- Draws of chapter 7: DrawParseInstr, DrawParseLibrary. -/
import Derived.Test.YthgcodbcafpmhaaGreatDoorDraw6L
import Derived.Test.YthgcodbcafpmhaaGreatDoorDraw5A
import Derived.Test.YthgcodbcafpmhaaGreatDoorFrmA
namespace Go.Proofs.YthgcodbcafpmhaaGreatDoor
open Go.RowKit
set_option linter.unusedVariables false
set_option linter.unusedSimpArgs false
def DrewStr (m : Nat) (w : World) (e : Ending) (w' : World) : Prop := ∃ s : ByteArray, s.size ≤ m ∧ e = .returned (.string s) ∧ Below w.heap.size w w'
theorem DrewStr.ret {m : Nat} {s : ByteArray} {w w' : World} (h1 : s.size ≤ m) (h : Below w.heap.size w w') : DrewStr m w (.returned (.string s)) w' := ⟨s, h1, rfl, h⟩
theorem Code.low7 {w w' : World} {A : Option Addr} {n : Nat} (h : Code w A n) (hb : Below w.heap.size w w') : Code w' A n := by
  obtain ⟨zs, h1, h2, h3, h4⟩ := h
  exact ⟨zs, h1, h2, h3, (h4.below hb).more hb.size⟩
theorem fmtL_short (M : List Scr) : (fmtL M).length ≤ 30492 := by
  cases h : okL M with
  | false => rw [fmtL, h]; exact Nat.zero_le _
  | true =>
    rw [fmtL_each h]
    have h1 := flatS_short M
    have h2 := okL_few h
    have h3 : 5082 * M.length ≤ 5082 * 6 := Nat.mul_le_mul_left _ h2
    omega
theorem fmtLD_short (L : List Dat) : (fmtLD L).size ≤ 30492 := by
  have h1 := fmtL_short (L.map unS)
  show (fmtL (L.map unS)).toArray.size ≤ _
  rw [List.size_toArray]
  exact h1
theorem app_size (a b : ByteArray) : (a ++ b).size = a.size + b.size := ByteArray.size_append
set_option maxRecDepth 100000 in
set_option maxHeartbeats 4000000 in
theorem drawPI (A : Option Addr) (n c : Nat) (w : World) (hC : Code w A n) (hn : n ≤ 1048576) : Calls Tryz.prog 14 #[.slice A n c] w (DrewStr 100 w) := by
  have HC := Lib.hid hC
  clear hC
  go_enter Tryz.func14, Tryz.ntmps14
  go_wp2_with fail
  refine (l1New A n c _ HC.out hn).mono ?_
  rintro e w1 ⟨g, rfl, hcur, hb1⟩
  have hge := hcur.ge
  have hg := hcur.lt
  have HB := Lib.hid hb1
  have hs1 := hb1.size
  have HCUR := Lib.hid hcur
  clear hcur hb1
  go_wp2_with fail
  refine (l1Once _ g 3 _ (by omega) (by omega) HCUR.out).mono ?_
  rintro e w2 ⟨v, rfl, hL⟩
  have HL := Lib.hid hL
  have hs2 := hL.2.size
  clear hL HCUR
  cases v with
  | true =>
    go_wp2_with fail
    refine (l1Str_new _ g [⟨#[]⟩, ⟨#[115, 101, 108, 102]⟩, ⟨#[115, 101, 108, 102, 32, 56]⟩, ⟨#[115, 101, 108, 102, 32, 48, 49]⟩, ⟨#[99, 111, 110, 115, 116, 32, 48, 32, 49, 48, 48, 48, 48, 48, 48]⟩, ⟨#[115, 101, 110, 100, 32, 48, 32, 49]⟩, ⟨#[115, 101, 110, 100, 32, 48, 32, 49, 32, 103, 101, 116]⟩, ⟨#[115, 101, 110, 100, 32, 48, 32, 49, 32, 103, 101, 116, 32, 50, 32, 51]⟩, ⟨#[115, 101, 110, 100, 32, 48, 32, 49, 32, 103, 101, 116, 32, 50, 32, 51, 32, 52]⟩, ⟨#[110, 101, 119, 32, 48, 32, 99, 101, 108, 108]⟩, ⟨#[110, 101, 119, 32, 48, 32, 99, 101, 108, 108, 32]⟩, ⟨#[97, 100, 100, 32, 49, 32, 50]⟩, ⟨#[114, 101, 116, 117, 114, 110, 32, 32, 49]⟩, ⟨#[102, 108, 121, 32, 49]⟩] 14 20 _ rfl (by decide) (by omega) (by omega) HL.out.1 _ rfl _).mono ?_
    rintro e w3 ⟨s, hs, rfl, hL3⟩
    have HL3 := Lib.hid (HL.out.trans hL3)
    clear hL3
    go_wp2_with fail
    go_ret
    exact DrewStr.ret (by omega) (HB.out.trans (HL3.out.below hge hs1))
  | false =>
    go_wp2_with fail
    refine (l5Any _ g _ HL.out.1).mono ?_
    rintro e w3 ⟨⟨op, a, b, c', d, nm⟩, ⟨hnm, -⟩, rfl, hL3⟩
    have hnm' : nm.size ≤ 8 := hnm
    have HL3 := Lib.hid (HL.out.trans hL3)
    clear hL3 hnm
    go_wp2_with fail
    refine (specFmt ⟨op, a, b, c', d, nm⟩ _ (by show nm.size ≤ _; omega)).mono ?_
    rintro e w4 ⟨rfl, hb4⟩
    have HB4 := Lib.hid hb4
    have hsz : (⟨(fmtI ⟨op, a, b, c', d, nm⟩).toArray⟩ : ByteArray).size ≤ 100 := by
      have h1 := fmtI_short ⟨op, a, b, c', d, nm⟩
      show (fmtI ⟨op, a, b, c', d, nm⟩).toArray.size ≤ _
      rw [List.size_toArray]; omega
    generalize (⟨(fmtI ⟨op, a, b, c', d, nm⟩).toArray⟩ : ByteArray) = s at *
    clear hb4
    go_wp2_with fail
    go_ret
    have h5 := HB.out.trans (HL3.out.below hge hs1)
    exact DrewStr.ret hsz (h5.trans (HB4.out.mono h5.size))
set_option maxRecDepth 100000 in
set_option maxHeartbeats 4000000 in
theorem drawPL (A : Option Addr) (n c : Nat) (w : World) (hC : Code w A n) (hn : n ≤ 1048576) : Calls Tryz.prog 12 #[.slice A n c] w (DrewStr 100000 w) := by
  have HC := Lib.hid hC
  clear hC
  go_enter Tryz.func12, Tryz.ntmps12
  go_wp2_with fail
  refine (l1New A n c _ HC.out hn).mono ?_
  rintro e w1 ⟨g, rfl, hcur, hb1⟩
  have hge := hcur.ge
  have hg := hcur.lt
  have HB := Lib.hid hb1
  have hs1 := hb1.size
  have HCUR := Lib.hid hcur
  clear hcur hb1
  go_wp2_with fail
  refine (l6Library _ g _ HCUR.out).mono ?_
  rintro e w2 ⟨A2, n2, c2, L, Bs, rfl, hG, hBs, hP, hL⟩
  have HLI := Lib.hid hG.owns.lies
  have HT : Hid (∀ x ∈ L, Has tyScript x) := Lib.hid (fun x hx => (hP.2 x hx).1)
  have hq := hP.bulk (by omega)
  have HL := Lib.hid hL
  have hs2 := hL.2.size
  clear hG hBs hP hL HCUR
  go_wp2_with fail
  refine (specFrmLD L A2 n2 c2 _ HLI.out HT.out (by omega)).mono ?_
  rintro e w3 ⟨rfl, hb3⟩
  have hsz := fmtLD_short L
  generalize fmtLD L = s at *
  have hs3 := hb3.size
  have HL3 := Lib.hid (HL.out.low hb3 hs2 (by omega))
  clear hb3 HL hq
  go_wp2_with fail
  refine (l1Below _ g 8 _ (by omega) (by omega) HL3.out.1).mono ?_
  rintro e w4 ⟨x, hx0, hx1, rfl, hL4⟩
  have HL4 := Lib.hid (HL3.out.trans hL4)
  clear hL4 HL3
  have HBL := Lib.hid (HB.out.trans (HL4.out.below hge hs1))
  have hcase : x = 0 ∨ x = 1 ∨ x = 2 ∨ 3 ≤ x := by omega
  rcases hcase with rfl | rfl | rfl | h3
  · go_wp2_with fail
    refine (l1Str_new _ g [⟨#[]⟩, ⟨#[10]⟩, ⟨#[115, 101, 108, 102, 32, 48, 10]⟩, ⟨#[115, 99, 114, 105, 112, 116, 32, 97]⟩, ⟨#[115, 99, 114, 105, 112, 116, 32, 97, 10]⟩, ⟨#[109, 101, 116, 104, 111, 100, 32, 97, 10]⟩, ⟨#[115, 99, 114, 105, 112, 116, 32, 97, 10, 115, 101, 108, 102, 32, 49, 10]⟩, ⟨#[115, 99, 114, 105, 112, 116, 32, 97, 10, 109, 101, 116, 104, 111, 100, 32, 98, 10]⟩, ⟨#[115, 99, 114, 105, 112, 116, 32, 65, 10]⟩] 9 20 _ rfl (by decide) (by omega) (by omega) HL4.out.1 _ rfl _).mono ?_
    rintro e w5 ⟨t, ht, rfl, hL5⟩
    have HL5 := Lib.hid (HL4.out.trans hL5)
    clear hL5
    go_wp2_with fail
    go_ret
    exact DrewStr.ret (by omega) (HB.out.trans (HL5.out.below hge hs1))
  · have h20 : s.size + 1 ≤ maxLen := by unfold maxLen; omega
    go_wp2_with fail
    go_ret
    exact DrewStr.ret (by rw [app_size]; have : (⟨#[120]⟩ : ByteArray).size = 1 := rfl; omega) HBL.out
  · have h20 : s.size + s.size ≤ maxLen := by unfold maxLen; omega
    go_wp2_with fail
    go_ret
    exact DrewStr.ret (by rw [app_size]; omega) HBL.out
  · have n0 : (x == 0) = false := by simp; omega
    have n1 : (x == 1) = false := by simp; omega
    have n2 : (x == 2) = false := by simp; omega
    go_wp2_with fail
    go_ret
    exact DrewStr.ret (by omega) HBL.out
end Go.Proofs.YthgcodbcafpmhaaGreatDoor
