/- Draws of chapter 6: l6Method. -/
import Derived.Test.YtgibhbplgiejpaaGreatDatDraw
import Derived.Test.YtgibhbplgiejpaaGreatDraw5
import Derived.Test.YtgibhbplgiejpaaGreatTyA
import Derived.Deep.RegionHeld3
import Derived.Deep.RegionLaw
namespace Go.Proofs.YtgibhbplgiejpaaGreat
open Go.RowKit
set_option linter.unusedVariables false
set_option linter.unusedSimpArgs false
/-- A drawn method's code. -/
def CodeOk (m : Nat) (L : List Dat) : Prop := L.length ≤ m ∧ ∀ x ∈ L, Has tyInstr x ∧ x.bulk ≤ 8
theorem ins_ok {op a b c d : Int} {nm : ByteArray} (h0 : -9223372036854775808 ≤ op ∧ op ≤ 9223372036854775807) (h1 : -9223372036854775808 ≤ a ∧ a ≤ 9223372036854775807) (h2 : -9223372036854775808 ≤ b ∧ b ≤ 9223372036854775807) (h3 : -9223372036854775808 ≤ c ∧ c ≤ 9223372036854775807) (h4 : -9223372036854775808 ≤ d ∧ d ≤ 9223372036854775807) (h5 : nm.size ≤ 8) :
    Has tyInstr (.r [.i op, .i a, .i b, .i c, .i d, .s nm]) ∧ (Dat.r [.i op, .i a, .i b, .i c, .i d, .s nm]).bulk ≤ 8 := by
  refine ⟨?_, by simp only [Dat.bulk, bulkAll]; omega⟩
  simp only [tyInstr, Has, HasAll]
  exact ⟨_, rfl, _, _, rfl, ⟨op, rfl, h0⟩, _, _, rfl, ⟨a, rfl, h1⟩, _, _, rfl, ⟨b, rfl, h2⟩, _, _, rfl, ⟨c, rfl, h3⟩, _, _, rfl, ⟨d, rfl, h4⟩, _, _, rfl, ⟨nm, rfl, by omega⟩, rfl⟩
theorem CodeOk.snoc {m : Nat} {L : List Dat} {d : Dat} (h : CodeOk m L) (hd : Has tyInstr d ∧ d.bulk ≤ 8) : CodeOk (m + 1) (L ++ [d]) := by
  refine ⟨by simpa using h.1, fun x hx => ?_⟩
  rcases List.mem_append.1 hx with hx | hx
  · exact h.2 x hx
  · rw [List.mem_singleton.1 hx]; exact hd
theorem CodeOk.more {m m' : Nat} {L : List Dat} (h : CodeOk m L) (hm : m ≤ m') : CodeOk m' L := ⟨Nat.le_trans h.1 hm, h.2⟩
theorem CodeOk.nil (m : Nat) : CodeOk m [] := ⟨Nat.zero_le _, fun x hx => by cases hx⟩
/-- A method was drawn, of this name. -/
def MethOk (nm : ByteArray) (nm' : ByteArray) (L : List Dat) : Prop := nm' = nm ∧ CodeOk 7 L
/-- An instruction whose first operand is no more than the last register. -/
def SmlD (d : Dat) : Prop := ∃ (op a b c e : Int) (nm : ByteArray), d = .r [.i op, .i a, .i b, .i c, .i e, .s nm] ∧ a ≤ 7
theorem ins_s {op a b c d : Int} {nm : ByteArray} (h7 : a ≤ 7) (h0 : -9223372036854775808 ≤ op ∧ op ≤ 9223372036854775807) (h1 : -9223372036854775808 ≤ a ∧ a ≤ 9223372036854775807) (h2 : -9223372036854775808 ≤ b ∧ b ≤ 9223372036854775807) (h3 : -9223372036854775808 ≤ c ∧ c ≤ 9223372036854775807) (h4 : -9223372036854775808 ≤ d ∧ d ≤ 9223372036854775807) (h5 : nm.size ≤ 8) :
    (Has tyInstr (.r [.i op, .i a, .i b, .i c, .i d, .s nm]) ∧ (Dat.r [.i op, .i a, .i b, .i c, .i d, .s nm]).bulk ≤ 8) ∧ SmlD (.r [.i op, .i a, .i b, .i c, .i d, .s nm]) := ⟨ins_ok h0 h1 h2 h3 h4 h5, _, _, _, _, _, _, rfl, h7⟩
def CodeS (m : Nat) (L : List Dat) : Prop := CodeOk m L ∧ ∀ x ∈ L, SmlD x
theorem CodeS.snoc {m : Nat} {L : List Dat} {d : Dat} (h : CodeS m L) (hd : (Has tyInstr d ∧ d.bulk ≤ 8) ∧ SmlD d) : CodeS (m + 1) (L ++ [d]) := by
  refine ⟨h.1.snoc hd.1, fun x hx => ?_⟩
  rcases List.mem_append.1 hx with hx | hx
  · exact h.2 x hx
  · rw [List.mem_singleton.1 hx]; exact hd.2
theorem CodeS.more {m m' : Nat} {L : List Dat} (h : CodeS m L) (hm : m ≤ m') : CodeS m' L := ⟨h.1.more hm, h.2⟩
theorem CodeS.nil (m : Nat) : CodeS m [] := ⟨CodeOk.nil m, fun x hx => by cases hx⟩
def MethS (m : Nat) (nm : ByteArray) (nm' : ByteArray) (L : List Dat) : Prop := nm' = nm ∧ CodeS m L
theorem DrewG.imp {Bc g : Nat} {E : TypeId} {k : Nat} {P Q : ByteArray → List Dat → Prop} {w w' : World} {e : Ending} (h : DrewG Bc g E k P w e w') (hPQ : ∀ nm L, P nm L → Q nm L) : DrewG Bc g E k Q w e w' := by
  obtain ⟨nm, A, n, c, L, Bs, he, hG, hB, hP, hL⟩ := h
  exact ⟨nm, A, n, c, L, Bs, he, hG, hB, hPQ _ _ hP, hL⟩
set_option maxRecDepth 100000 in
set_option maxHeartbeats 8000000 in
theorem l6MethodS (Bc g : Nat) (nm : ByteArray) (w : World) (hc : Cur w Bc g) : Calls Tryz.prog 26 #[.pointer (some ⟨g, 0, none⟩), .string nm] w (DrewG Bc g 32 6 (MethS 7 nm) w) := by
  obtain ⟨i0, hi, hz0, hz1, hz2⟩ := info_parts infoInstr
  have X := Lib.hid (MkSt.start hc #[.string ⟨#[]⟩, .slice none 0 0] nm 32 6 26 26)
  clear hc
  go_enter Tryz.func26, Tryz.ntmps26
  go_wp2_with fail
  refine (l1Below Bc g 6 _ (by omega) (by omega) X.out.cur).mono ?_
  rintro e w1 ⟨x, hx0, hx1, rfl, hL⟩
  obtain ⟨y, rfl⟩ : ∃ y : Nat, x = y := ⟨x.toNat, by omega⟩
  replace X := Lib.hid (X.out.turn hL)
  clear hL
  go_wp2_with fail
  go_loopw [6] (fun iv wr => ∃ (i : Nat) (A : Option Addr) (n c : Nat) (L : List Dat), iv = .int .i64 i ∧ n + i ≤ 6 ∧ CodeS n L ∧ MkSt w Bc g 32 6 (w.heap.size + 2) (w.heap.size + 1) [] [.string ⟨#[]⟩, .slice none 0 0] nm A n c A n c L wr) (fun iv _ => (intOf iv).toNat)
  case atStart => exact ⟨1 + y, none, 0, 0, [], by go_num, by omega, CodeS.nil 0, X.out⟩
  case round =>
    obtain ⟨i, A, n, c, L, rfl, hni, hok, hX⟩ := hrel
    replace X := Lib.hid hX
    have HOK := Lib.hid hok
    clear hX hok
    by_cases hlt : 0 < i
    · obtain ⟨j, rfl⟩ : ∃ j, i = j + 1 := ⟨i - 1, by omega⟩
      obtain ⟨z0, z1⟩ := X.out.two
      have XD := Lib.hid (X.out.below (Below.refl _ _).drew)
      go_wp2_with fail
      go_region_law (first
        | (refine step_app rfl _ _ 24 rfl (by omega) i0 _ 56 Tryz.underlying24 hi hz0 hz1 rfl hz2 XD.out HL5.out _ 1 1 [.r [.i op, .i a, .i b, .i cc, .i dd, .s nm5]] (fun _ => False) (Src.lit rfl (ownInstr (Iv := fun _ => False)) rfl (fun b h => h.elim)) (fun b h => h.elim) rfl rfl (by omega) (by omega) ?_; intro A8 c8 w8 hM8; have X8 := Lib.hid hM8; (obtain ⟨z0, z1⟩ := X8.out.two); (obtain ⟨f0, f1⟩ := X8.out.free); clear hM8)
        | (go_simp; go_at_call 53; (with_reducible refine (l5InstrS Bc g _ XD.out.cur).mono ?_); rintro e w5 ⟨⟨op, a, b, cc, dd, nm5⟩, ⟨hnm, h64, h7⟩, rfl, hL⟩; have HI := Lib.hid (ins_s h7 h64.1 h64.2.1 h64.2.2.1 h64.2.2.2.1 h64.2.2.2.2 hnm); have X5 := Lib.hid (XD.out.turn hL); have HL5 := Lib.hid hL; have z6 : ∀ o, (w5.alloc o).cell? ⟨w.heap.size + 1, 1, none⟩ = some (.slice A n c) := (fun o => (X5.out.below ((Below.refl _ _).alloc (Nat.le_refl _) o)).two.2); have z5 := X5.out.two.2; clear hL hnm h64 h7))
      all_goals (
        have HN := Lib.hid (HOK.out.snoc HI.out)
        have XN := Lib.hid X8.out.store
        clear XD X5 HL5 X8
        go_wp2_with fail
        go_roundw
        case rel => exact ⟨j, A8, n + 1, c8, _, by go_num, by omega, HN.out, XN.out⟩
        case measure => (simp [intOf]))
    · obtain rfl : i = 0 := by omega
      go_wp2_with fail
      refine (l1Once Bc g 2 _ (by omega) (by omega) X.out.cur).mono ?_
      rintro e w2 ⟨v, rfl, hL⟩
      replace X := Lib.hid (X.out.turn hL)
      clear hL
      cases v with
      | true =>
        obtain ⟨z0, z1⟩ := X.out.two
        have XD := Lib.hid (X.out.below (Below.refl _ _).drew)
        go_wp2_with fail
        go_region_law (first
          | (refine step_app rfl _ _ 24 rfl (by omega) i0 _ 56 Tryz.underlying24 hi hz0 hz1 rfl hz2 XD.out HL5.out _ 1 1 [.r [.i 10, .i x, .i 0, .i 0, .i 0, .s ⟨#[]⟩]] (fun _ => False) (Src.lit rfl (ownInstr (Iv := fun _ => False)) rfl (fun b h => h.elim)) (fun b h => h.elim) rfl rfl (by omega) (by omega) ?_; intro A8 c8 w8 hM8; have X8 := Lib.hid hM8; (obtain ⟨z0, z1⟩ := X8.out.two); (obtain ⟨f0, f1⟩ := X8.out.free); clear hM8)
          | (go_simp; go_at_call 52; (with_reducible refine (l1Below Bc g 3 _ (by omega) (by omega) XD.out.cur).mono ?_); rintro e w5 ⟨x, hx0, hx1, rfl, hL⟩; have HI : Hid ((Has tyInstr (.r [.i 10, .i x, .i 0, .i 0, .i 0, .s ⟨#[]⟩]) ∧ (Dat.r [.i 10, .i x, .i 0, .i 0, .i 0, .s ⟨#[]⟩]).bulk ≤ 8) ∧ SmlD (.r [.i 10, .i x, .i 0, .i 0, .i 0, .s ⟨#[]⟩])) := Lib.hid (ins_s (by omega) (by omega) (by omega) (by omega) (by omega) (by omega) (by decide)); have X5 := Lib.hid (XD.out.turn hL); have HL5 := Lib.hid hL; have z6 : ∀ o, (w5.alloc o).cell? ⟨w.heap.size + 1, 1, none⟩ = some (.slice A n c) := (fun o => (X5.out.below ((Below.refl _ _).alloc (Nat.le_refl _) o)).two.2); have z5 := X5.out.two.2; clear hL))
        all_goals (
          have HN := Lib.hid (HOK.out.snoc HI.out)
          have XN := Lib.hid X8.out.store
          clear XD X5 HL5 X8 z0 z1 f0 f1 z5 z6 X
          obtain ⟨z0, z1⟩ := XN.out.two
          obtain ⟨q0, q1, q2, q3⟩ := XN.out.res.two
          go_wp2_with fail
          have p := XN.out.last (.string nm) (.slice A8 (n + 1) c8)
          have p0 := p.2 0 _ rfl
          have p1 := p.2 1 _ rfl
          clear p
          refine bodyPost_ret (v := .agg #[.string nm, .slice A8 (n + 1) c8]) (by simp [results, Tryz.results26, go_sem, p0, p1]; try rfl) rfl ?_
          exact XN.out.done ⟨rfl, HN.out.more (by omega)⟩ _ _)
      | false =>
        obtain ⟨z0, z1⟩ := X.out.two
        obtain ⟨q0, q1, q2, q3⟩ := X.out.res.two
        go_wp2_with fail
        have p := X.out.last (.string nm) (.slice A n c)
        have p0 := p.2 0 _ rfl
        have p1 := p.2 1 _ rfl
        clear p
        refine bodyPost_ret (v := .agg #[.string nm, .slice A n c]) (by simp [results, Tryz.results26, go_sem, p0, p1]; try rfl) rfl ?_
        exact X.out.done ⟨rfl, HOK.out.more (by omega)⟩ _ _
theorem l6Method (Bc g : Nat) (nm : ByteArray) (w : World) (hc : Cur w Bc g) : Calls Tryz.prog 26 #[.pointer (some ⟨g, 0, none⟩), .string nm] w (DrewG Bc g 32 6 (MethOk nm) w) := (l6MethodS Bc g nm w hc).mono fun _ _ h => h.imp fun _ _ h => ⟨h.1, h.2.1⟩
end Go.Proofs.YtgibhbplgiejpaaGreat
