/- Draws of chapter 6: l6Script. -/
import Derived.Test.YtgibhbplgiejpaaGreatDraw6
namespace Go.Proofs.YtgibhbplgiejpaaGreat
open Go.RowKit
set_option linter.unusedVariables false
set_option linter.unusedSimpArgs false
theorem bulk_sum {K : Nat} : ∀ {L : List Dat}, (∀ x ∈ L, x.bulk ≤ K) → bulkAll L ≤ L.length * K
  | [], _ => by simp [bulkAll]
  | d :: L, h => by
    have h1 := h d (by simp)
    have h2 := bulk_sum (L := L) (fun x hx => h x (List.mem_cons_of_mem _ hx))
    rw [bulkAll, List.length_cons, Nat.add_mul]
    omega
def MethD (d : Dat) : Prop := Has tyMethod d ∧ d.bulk ≤ 200
theorem meth_d {nm : ByteArray} {L : List Dat} (hn : nm.size ≤ 8) (h : CodeOk 13 L) : MethD (.r [.s nm, .l L]) := by
  have h1 := bulk_sum (fun x hx => (h.2 x hx).2)
  have h2 := h.1
  refine ⟨?_, by simp only [Dat.bulk, bulkAll]; omega⟩
  simp only [tyMethod, Has, HasAll]
  exact ⟨_, rfl, _, _, rfl, ⟨nm, rfl, by omega⟩, _, _, rfl, ⟨L, rfl, by omega, fun x hx => (h.2 x hx).1⟩, rfl⟩
def MethsOk (m : Nat) (L : List Dat) : Prop := L.length ≤ m ∧ ∀ x ∈ L, MethD x
theorem MethsOk.nil (m : Nat) : MethsOk m [] := ⟨Nat.zero_le _, fun x hx => by cases hx⟩
theorem MethsOk.more {m m' : Nat} {L : List Dat} (h : MethsOk m L) (hm : m ≤ m') : MethsOk m' L := ⟨Nat.le_trans h.1 hm, h.2⟩
theorem MethsOk.add {m k : Nat} {L M : List Dat} (h : MethsOk m L) (hM : MethsOk k M) : MethsOk (m + k) (L ++ M) := by
  refine ⟨by have := h.1; have := hM.1; simp; omega, fun x hx => ?_⟩
  rcases List.mem_append.1 hx with hx | hx
  · exact h.2 x hx
  · exact hM.2 x hx
theorem MethsOk.one {d : Dat} (hd : MethD d) : MethsOk 1 [d] := ⟨Nat.le_refl _, fun x hx => by rw [List.mem_singleton.1 hx]; exact hd⟩
/-- A script was drawn, of this name. -/
def ScrOk (m : Nat) (nm : ByteArray) (nm' : ByteArray) (L : List Dat) : Prop := nm' = nm ∧ MethsOk m L
def fourS : List Value := [.string ⟨#[103, 101, 116]⟩, .string ⟨#[115, 101, 116]⟩, .string ⟨#[97, 100, 100]⟩, .string ⟨#[103, 111]⟩]
theorem four_at {i : Nat} (h : i < 4) : ∃ s : ByteArray, fourS[i]? = some (.string s) ∧ s.size ≤ 8 := by
  match i, h with
  | 0, _ => exact ⟨⟨#[103, 101, 116]⟩, rfl, by decide⟩
  | 1, _ => exact ⟨⟨#[115, 101, 116]⟩, rfl, by decide⟩
  | 2, _ => exact ⟨⟨#[97, 100, 100]⟩, rfl, by decide⟩
  | 3, _ => exact ⟨⟨#[103, 111]⟩, rfl, by decide⟩
theorem MethOk.d {nm nm' : ByteArray} {L : List Dat} (h : MethOk nm nm' L) (hn : nm.size ≤ 8) : MethD (.r [.s nm', .l L]) := meth_d (by rw [h.1]; exact hn) (h.2.more (by omega))
theorem ownMeth {E : TypeId} {lo : Nat} {w : World} {A : Option Addr} {n c : Nat} {L : List Dat} {Bs : Nat → Prop} {nm : ByteArray} (h : Grow E 6 lo w A n c L Bs) : Owns w (.r [.s nm, .l L]) [.string nm, .slice A n c] (fun b => (∃ a, A = some a ∧ b = a.block) ∨ Bs b) := ownMethod h.owns
set_option maxRecDepth 100000 in
set_option maxHeartbeats 8000000 in
theorem l6Script (Bc g : Nat) (nm : ByteArray) (w : World) (hc : Cur w Bc g) : Calls Tryz.prog 77 #[.pointer (some ⟨g, 0, none⟩), .string nm] w (DrewG Bc g 26 2 (ScrOk 4 nm) w) := by
  obtain ⟨i0, hi, hz0, hz1, hz2⟩ := info_parts infoMethod
  have X := Lib.hid ((MkSt.start hc #[.string ⟨#[]⟩, .slice none 0 0] nm 26 2 37 37).hold (by simp) (by omega) #[.string ⟨#[103, 101, 116]⟩, .string ⟨#[115, 101, 116]⟩, .string ⟨#[97, 100, 100]⟩, .string ⟨#[103, 111]⟩] 9)
  clear hc
  go_enter Tryz.func77, Tryz.ntmps77
  go_wp2_with fail
  go_loopw [12] (fun iv wr => ∃ (i : Nat) (A : Option Addr) (n c : Nat) (L : List Dat), i ≤ 4 ∧ iv = .int .i64 i ∧ n ≤ i ∧ MethsOk n L ∧ MkSt w Bc g 26 2 (w.heap.size + 2 + 1) (w.heap.size + 1) [(w.heap.size + 2, fourS)] [.string ⟨#[]⟩, .slice none 0 0] nm A n c A n c L wr) (fun iv _ => 4 - (intOf iv).toNat)
  case atStart => exact ⟨0, none, 0, 0, [], by omega, rfl, by omega, MethsOk.nil 0, X.out⟩
  case round =>
    obtain ⟨i, A, n, c, L, hi4, rfl, hni, hok, hX⟩ := hrel
    replace X := Lib.hid hX
    have HOK := Lib.hid hok
    clear hX hok
    by_cases hlt : i < 4
    · obtain ⟨s, hs4, hs8⟩ := four_at hlt
      have hcell : wr.cell? ⟨w.heap.size + 2, i, none⟩ = some (.string s) := (X.out.held (w.heap.size + 2, fourS) List.mem_cons_self).1.2 i _ hs4
      clear hs4
      go_wp2_with fail
      refine (l1Once Bc g 3 _ (by omega) (by omega) X.out.cur).mono ?_
      rintro e w2 ⟨v, rfl, hL⟩
      replace X := Lib.hid (X.out.turn hL)
      clear hL hcell
      cases v with
      | true =>
        go_wp2_with fail
        go_roundw
        case rel => exact ⟨i + 1, A, n, c, L, by omega, by go_num, by omega, HOK.out, X.out⟩
        case measure => simp [intOf]; omega
      | false =>
        obtain ⟨z0, z1⟩ := X.out.two
        have XD := Lib.hid (X.out.below (Below.refl _ _).drew)
        go_wp2_with fail
        go_region_law (first
          | (refine step_app rfl _ _ 35 rfl (by omega) i0 _ 40 Tryz.underlying35 hi hz0 hz1 rfl hz2 XD.out HL5.out _ 1 1 [.r [.s nm5, .l L5]] (fun b => (∃ a, A5 = some a ∧ b = a.block) ∨ Bs5 b) (Src.lit rfl (ownMeth HG5.out) rfl (fun b h => (HG5.out.all HB5.out b h).2)) (fun b h => (HG5.out.all HB5.out b h).1) rfl rfl (by omega) (by omega) ?_; intro A8 c8 w8 hM8; have X8 := Lib.hid hM8; (obtain ⟨z0, z1⟩ := X8.out.two); (obtain ⟨f0, f1⟩ := X8.out.free); clear hM8)
          | (go_simp; go_at_call 26; (with_reducible refine (l6Method Bc g s _ XD.out.cur).mono ?_); rintro e w5 ⟨nm5, A5, n5, c5, L5, Bs5, rfl, hG5, hB5, hP5, hL⟩; have HI := Lib.hid (hP5.d hs8); have HG5 := Lib.hid hG5; have HB5 := Lib.hid hB5; have X5 := Lib.hid (XD.out.turn hL); have HL5 := Lib.hid hL; have z6 : ∀ o, (w5.alloc o).cell? ⟨w.heap.size + 1, 1, none⟩ = some (.slice A n c) := (fun o => (X5.out.below ((Below.refl _ _).alloc (Nat.le_refl _) o)).two.2); have z5 := X5.out.two.2; clear hL hG5 hB5 hP5))
        all_goals (
          have HN := Lib.hid (HOK.out.add (MethsOk.one HI.out))
          have XN := Lib.hid X8.out.store
          clear XD X5 HL5 X8 HG5 HB5
          go_wp2_with fail
          go_roundw
          case rel => exact ⟨i + 1, A8, n + 1, c8, _, by omega, by go_num, by omega, HN.out, XN.out⟩
          case measure => (simp [intOf]; omega))
    · obtain rfl : i = 4 := by omega
      obtain ⟨z0, z1⟩ := X.out.two
      obtain ⟨q0, q1, q2, q3⟩ := X.out.res.two
      go_wp2_with fail
      have p := X.out.last (.string nm) (.slice A n c)
      have p0 := p.2 0 _ rfl
      have p1 := p.2 1 _ rfl
      clear p
      refine bodyPost_ret (v := .agg #[.string nm, .slice A n c]) (by simp [results, Tryz.results77, go_sem, p0, p1]; try rfl) rfl ?_
      exact X.out.done ⟨rfl, HOK.out.more (by omega)⟩ _ _
end Go.Proofs.YtgibhbplgiejpaaGreat
