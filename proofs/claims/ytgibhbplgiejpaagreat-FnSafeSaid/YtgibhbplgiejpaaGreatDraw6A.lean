/- Draws of chapter 6: l6Any. -/
import Derived.Test.YtgibhbplgiejpaaGreatDraw6S
namespace Go.Proofs.YtgibhbplgiejpaaGreat
open Go.RowKit
set_option linter.unusedVariables false
set_option linter.unusedSimpArgs false
/-- Some script was drawn. -/
def AnyScr (nm : ByteArray) (L : List Dat) : Prop := nm.size ≤ 8 ∧ MethsOk 6 L
theorem made_row (w : World) (zc : Array Value) (n E : Nat) (hn : n ≤ 100) : (w.alloc (.cells (madeCells zc (n * zc.size)) E)).ownsRow 0 E zc.size (.slice (some ⟨w.heap.size, 0, none⟩) n n) n (madeCells zc (n * zc.size)).toList := by
  refine ⟨by rw [Array.length_toList, size_madeCells], Or.inr ⟨w.heap.size, n, madeCells zc (n * zc.size), rfl, Nat.zero_le _, ?_, Nat.le_refl _, by unfold maxLen; omega, size_madeCells _ _, ?_⟩⟩
  · show (w.heap.push _)[w.heap.size]? = _
    simp
  · rw [List.take_of_length_le (by rw [Array.length_toList, size_madeCells]; exact Nat.le_refl _)]
theorem made_owns (w : World) (n : Nat) (hn : n ≤ 100) : Owns (w.alloc (.cells (madeCells #[.int .i64 0, .int .i64 0, .int .i64 0, .int .i64 0, .int .i64 0, .string ⟨#[]⟩] (n * 6)) 32)) (.l (List.replicate n (.r [.i 0, .i 0, .i 0, .i 0, .i 0, .s ⟨#[]⟩]))) [.slice (some ⟨w.heap.size, 0, none⟩) n n] (fun b => b = w.heap.size) :=
  Owns.made (zc := #[.int .i64 0, .int .i64 0, .int .i64 0, .int .i64 0, .int .i64 0, .string ⟨#[]⟩]) zeroInstr (made_row w _ n 32 hn)
theorem run_make_ins (n : Nat) (hn : n ≤ 100) (w : World) : (Instr.makeSlice 24 (.int .i64 (n : Int)) (.int .i64 (n : Int))).run Tryz.prog w = .ok (.slice (some ⟨w.heap.size, 0, none⟩) n n) (w.alloc (.cells (madeCells #[.int .i64 0, .int .i64 0, .int .i64 0, .int .i64 0, .int .i64 0, .string ⟨#[]⟩] (n * 6)) 32)) := by
  obtain ⟨i0, hi, hz0, hz1, hz2⟩ := info_parts infoInstr
  have h := run_make (P := Tryz.prog) w 24 32 i0 _ Tryz.underlying24 hi hz0 .i64 .i64 n n (by omega) (Int.le_refl _) (by rw [hz2]; omega) (by omega)
  rw [Int.toNat_natCast, hz1] at h
  exact h
theorem made_ok (n : Nat) (hn : n ≤ 13) : CodeOk 13 (List.replicate n (.r [.i 0, .i 0, .i 0, .i 0, .i 0, .s ⟨#[]⟩])) := by
  refine ⟨by simpa using hn, fun x hx => ?_⟩
  rw [(List.mem_replicate.1 hx).2]
  exact ins_ok (by omega) (by omega) (by omega) (by omega) (by omega) (by decide)
theorem l1Str_lit (B g : Nat) (zs : List ByteArray) (n m k : Nat) (w : World) (hk : w.heap.size = k) (hlen : zs.length = n) (hz : ∀ z ∈ zs, z.size ≤ m) (hn : 0 < n) (hm : n ≤ 9223372036854775807) (hc : Cur w B g) (C : Array Value) (hC : C = (zs.map Value.string).toArray) (T : TypeId) :
    Calls Tryz.prog 55 #[.pointer (some ⟨g, 0, none⟩), .slice (some ⟨k, 0, none⟩) n n] (w.alloc (.cells C T)) (Str m B g w) := by
  subst hk
  exact l1Str_new B g zs n m w hlen hz hn hm hc C hC T
theorem l1Int_lit (B g : Nat) (zs : List Int) (n k : Nat) (lo hi : Int) (w : World) (hk : w.heap.size = k) (hlen : zs.length = n) (hz : ∀ z ∈ zs, lo ≤ z ∧ z ≤ hi) (hn : 0 < n) (hm : n ≤ 9223372036854775807) (hc : Cur w B g) (C : Array Value) (hC : C = (zs.map (Value.int .i64)).toArray) (T : TypeId) :
    Calls Tryz.prog 54 #[.pointer (some ⟨g, 0, none⟩), .slice (some ⟨k, 0, none⟩) n n] (w.alloc (.cells C T)) (Num lo hi B g w) := by
  subst hk
  exact l1Int_new B g zs n lo hi w hlen hz hn hm hc C hC T
set_option maxRecDepth 100000 in
set_option maxHeartbeats 16000000 in
theorem l6Any (Bc g : Nat) (w : World) (hc : Cur w Bc g) : Calls Tryz.prog 38 #[.pointer (some ⟨g, 0, none⟩)] w (DrewG Bc g 26 2 AnyScr w) := by
  obtain ⟨i0, hi, hz0, hz1, hz2⟩ := info_parts infoMethod
  have hg := hc.lt
  have Z := Lib.hid (Zb.new w #[.string ⟨#[]⟩, .slice none 0 0] 37 (Nat.le_refl _))
  have HL : Hid (Left Bc g w (w.alloc (.cells #[.string ⟨#[]⟩, .slice none 0 0] 37))) := Lib.hid ⟨hc.alloc' _, (Turn.refl g w).alloc _⟩
  have hne : w.heap.size ≠ g := by omega
  have HNE := Lib.hid hne
  clear hc hne
  go_enter Tryz.func38, Tryz.ntmps38
  go_wp2_with fail
  refine (l1Str_lit Bc g [⟨#[99, 101, 108, 108]⟩, ⟨#[112, 114, 111, 120, 121]⟩, ⟨#[109, 97, 107, 101, 114]⟩] 3 5 (w.heap.size + 1) _ (by simp) rfl (by decide) (by omega) (by omega) HL.out.1 _ rfl _).mono ?_
  rintro e w1 ⟨s, hs, rfl, hL⟩
  have hw1 : w.heap.size < w1.heap.size := by have h1 := hL.2.size; rw [World.size_alloc] at h1; omega
  replace Z := Lib.hid (Z.out.turn hL.2 HNE.out)
  replace HL := Lib.hid (HL.out.trans hL)
  clear hL
  go_wp2_with fail
  refine (l6Script Bc g s _ HL.out.1).mono ?_
  rintro e w2 ⟨nm, A, n, c, L, Bs, rfl, hG, hB, ⟨hnm, hok⟩, hL⟩
  have hw2 := hL.2.size
  have X := Lib.hid (MkSt.of_drew (nm := nm) (Z.out.turn hL.2 HNE.out) (HL.out.trans hL) hg hG hB hw1 hw2 37)
  have HOK := Lib.hid hok
  have hn8 : nm.size ≤ 8 := by rw [hnm]; omega
  have hn4 : n ≤ 4 := by have h1 := hok.1; have h2 := hG.owns.lies.count; omega
  have hvv : w.heap.size < w2.heap.size := by omega
  clear hG hB hok hL Z HL hnm
  go_wp2_with fail
  refine (l1Below Bc g 10 _ (by omega) (by omega) X.out.cur).mono ?_
  rintro e w3 ⟨x, hx0, hx1, rfl, hL⟩
  replace X := Lib.hid (X.out.turn hL)
  clear hL
  have hcase : x = 0 ∨ x = 1 ∨ x = 2 ∨ x = 3 ∨ 4 ≤ x := by omega
  have hvn : ¬ w2.heap.size = w.heap.size := by omega
  have hvn2 : ¬ w.heap.size = w2.heap.size := by omega
  rcases hcase with rfl | rfl | rfl | rfl | h4
  · obtain ⟨z0, z1⟩ := X.out.two
    obtain ⟨f0, f1⟩ := X.out.free
    go_wp2_with fail
    refine (l1Str_lit Bc g [⟨#[]⟩, ⟨#[65]⟩, ⟨#[97, 98, 99, 100, 101, 102, 103]⟩] 3 7 w3.heap.size _ rfl rfl (by decide) (by omega) (by omega) X.out.cur _ rfl _).mono ?_
    rintro e w4 ⟨s4, hs4, rfl, hL⟩
    replace X := Lib.hid (X.out.turn hL)
    clear hL z0 z1 f0 f1
    obtain ⟨z0, z1⟩ := X.out.two
    obtain ⟨f0, f1⟩ := X.out.free
    replace X := Lib.hid (X.out.rename s4)
    have hs5 : s4.size ≤ 8 := by omega
    obtain ⟨y0, y1⟩ := X.out.two
    obtain ⟨q0, q1, q2, q3⟩ := X.out.res.two
    go_wp2_with fail
    have p := X.out.last (.string s4) (.slice A n c)
    have p0 := p.2 0 _ rfl
    have p1 := p.2 1 _ rfl
    clear p
    refine bodyPost_ret (v := .agg #[.string s4, .slice A n c]) (by simp [results, Tryz.results38, go_sem, p0, p1]; try rfl) rfl ?_
    exact X.out.done ⟨hs5, HOK.out.more (by omega)⟩ _ _
  · obtain ⟨z0, z1⟩ := X.out.two
    have XD := Lib.hid (X.out.below (Below.refl _ _).drew)
    go_wp2_with fail
    go_region_law (first
      | (refine step_app rfl _ _ 35 rfl (by omega) i0 _ 40 Tryz.underlying35 hi hz0 hz1 rfl hz2 XD.out HL5.out _ 1 1 [.r [.s nm5, .l L5]] (fun b => (∃ a, A5 = some a ∧ b = a.block) ∨ Bs5 b) (Src.lit rfl (ownMeth HG5.out) rfl (fun b h => (HG5.out.all HB5.out b h).2)) (fun b h => (HG5.out.all HB5.out b h).1) rfl rfl (by omega) (by omega) ?_; intro A8 c8 w8 hM8; have X8 := Lib.hid hM8; (obtain ⟨z0, z1⟩ := X8.out.two); (obtain ⟨f0, f1⟩ := X8.out.free); clear hM8)
      | (go_simp; go_at_call 26; (with_reducible refine (l6Method Bc g ⟨#[103, 101, 116]⟩ _ XD.out.cur).mono ?_); rintro e w5 ⟨nm5, A5, n5, c5, L5, Bs5, rfl, hG5, hB5, hP5, hL⟩; have HI := Lib.hid (hP5.d (by decide)); have HG5 := Lib.hid hG5; have HB5 := Lib.hid hB5; have X5 := Lib.hid (XD.out.turn hL); have HL5 := Lib.hid hL; have z6 : ∀ o, (w5.alloc o).cell? ⟨w2.heap.size, 1, none⟩ = some (.slice A n c) := (fun o => (X5.out.below ((Below.refl _ _).alloc (Nat.le_refl _) o)).two.2); have z5 := X5.out.two.2; clear hL hG5 hB5 hP5))
    all_goals (
      have HN := Lib.hid (HOK.out.add (MethsOk.one HI.out))
      replace X := Lib.hid X8.out.store
      clear XD X8 X5 HL5 HG5 HB5
      obtain ⟨y0, y1⟩ := X.out.two
      obtain ⟨q0, q1, q2, q3⟩ := X.out.res.two
      go_wp2_with fail
      have p := X.out.last (.string nm) (.slice A8 (n + 1) c8)
      have p0 := p.2 0 _ rfl
      have p1 := p.2 1 _ rfl
      clear p
      refine bodyPost_ret (v := .agg #[.string nm, .slice A8 (n + 1) c8]) (by simp [results, Tryz.results38, go_sem, p0, p1]; try rfl) rfl ?_
      exact X.out.done ⟨hn8, HN.out.more (by omega)⟩ _ _)
  · obtain ⟨z0, z1⟩ := X.out.two
    have XD := Lib.hid (X.out.below (Below.refl _ _).drew)
    go_wp2_with fail
    go_region_law (first
      | (refine step_app rfl _ _ 35 rfl (by omega) i0 _ 40 Tryz.underlying35 hi hz0 hz1 rfl hz2 XD.out HL5.out _ 2 2 [.r [.s nm5, .l L5], .r [.s nm6, .l L6]] (fun b => (fun b => (∃ a, A5 = some a ∧ b = a.block) ∨ Bs5 b) b ∨ (fun b => (∃ a, A6 = some a ∧ b = a.block) ∨ Bs6 b) b) (Src.two rfl HO5.out (ownMeth HG6.out) rfl rfl (fun b h => Nat.lt_of_lt_of_le (HG5.out.all HB5.out b h).2 hs56) (fun b h => (HG6.out.all HB6.out b h).2) (fun b h h2 => by have h3 := (HG5.out.all HB5.out b h).2; have h4 := (HG6.out.all HB6.out b h2).1; omega)) (fun b h => h.elim (fun h => (HG5.out.all HB5.out b h).1) (fun h => by have h1 := (HG6.out.all HB6.out b h).1; have h2 := HL50.out.2.size; omega)) rfl rfl (by omega) (by omega) ?_; intro A8 c8 w8 hM8; have X8 := Lib.hid hM8; (obtain ⟨z0, z1⟩ := X8.out.two); (obtain ⟨f0, f1⟩ := X8.out.free); clear hM8)
      | (go_simp; go_at_call 26; (with_reducible refine (l6Method Bc g ⟨#[109, 97, 107, 101]⟩ _ XD.out.cur).mono ?_); rintro e w5 ⟨nm5, A5, n5, c5, L5, Bs5, rfl, hG5, hB5, hP5, hL⟩; have HI := Lib.hid (hP5.d (by decide)); have HG5 := Lib.hid hG5; have HB5 := Lib.hid hB5; have X5 := Lib.hid (XD.out.turn hL); have HL50 := Lib.hid hL; have z5 := X5.out.two.2; clear hL hG5 hB5 hP5)
      | (go_simp; go_at_call 26; (with_reducible refine (l6Method Bc g ⟨#[120]⟩ _ X5.out.cur).mono ?_); rintro e w6 ⟨nm6, A6, n6, c6, L6, Bs6, rfl, hG6, hB6, hP6, hL⟩; have HJ := Lib.hid (hP6.d (by decide)); have HG6 := Lib.hid hG6; have HB6 := Lib.hid hB6; have X6 := Lib.hid (X5.out.turn hL); have HL5 := Lib.hid (HL50.out.trans hL); have hs56 := hL.2.size; have HO5 := Lib.hid ((ownMeth (nm := nm5) HG5.out).touch (Touch.of_turn hL.2) (fun b h e => by have h1 := HG5.out.all HB5.out b h; have h2 := XD.out.low.2.1; have h3 := XD.out.low.1; have h4 := XD.out.low.2.2.1; omega)); have z6 : ∀ o, (w6.alloc o).cell? ⟨w2.heap.size, 1, none⟩ = some (.slice A n c) := (fun o => (X6.out.below ((Below.refl _ _).alloc (Nat.le_refl _) o)).two.2); have z7 := X6.out.two.2; clear hL hG6 hB6 hP6))
    all_goals (
      have HN := Lib.hid (HOK.out.add ((MethsOk.one HI.out).add (MethsOk.one HJ.out)))
      replace X := Lib.hid X8.out.store
      clear XD X8 X5 X6 HL5 HL50 HG5 HB5 HG6 HB6 HO5
      obtain ⟨y0, y1⟩ := X.out.two
      obtain ⟨q0, q1, q2, q3⟩ := X.out.res.two
      go_wp2_with fail
      have p := X.out.last (.string nm) (.slice A8 (n + 2) c8)
      have p0 := p.2 0 _ rfl
      have p1 := p.2 1 _ rfl
      clear p
      refine bodyPost_ret (v := .agg #[.string nm, .slice A8 (n + 2) c8]) (by simp [results, Tryz.results38, go_sem, p0, p1]; try rfl) rfl ?_
      exact X.out.done ⟨hn8, HN.out.more (by omega)⟩ _ _)
  · obtain ⟨z0, z1⟩ := X.out.two
    have XD := Lib.hid (X.out.below (Below.refl _ _).drew)
    have z8 : ∀ o, (w3.alloc o).cell? ⟨w2.heap.size, 1, none⟩ = some (.slice A n c) := (fun o => (X.out.below ((Below.refl _ _).alloc (Nat.le_refl _) o)).two.2)
    go_wp2_with fail
    go_region_law (first
      | (refine step_app_at (w5.heap.size + 1) (by simp) rfl _ _ 35 rfl (by omega) i0 _ 40 Tryz.underlying35 hi hz0 hz1 rfl hz2 XD.out HL5.out _ 1 1 [.r [.s ⟨#[109]⟩, .l (List.replicate y (.r [.i 0, .i 0, .i 0, .i 0, .i 0, .s ⟨#[]⟩]))]] (fun b => b = w5.heap.size) (Src.lit rfl HO5.out rfl (fun b h => by subst h; simp)) (fun b h => by subst h; exact hs5) rfl rfl (by omega) (by omega) ?_; intro A8 c8 w8 hM8; have X8 := Lib.hid hM8; (obtain ⟨z0, z1⟩ := X8.out.two); (obtain ⟨f0, f1⟩ := X8.out.free); clear hM8)
      | (go_simp; go_at_call 54; (refine (l1Int_lit Bc g [0, 1, 13] 3 w3.heap.size 0 13 w3.drew rfl rfl (by intro z hz; simp at hz; omega) (by omega) (by omega) XD.out.cur _ rfl _).mono ?_); rintro e w5 ⟨y, hy0, hy1, rfl, hL⟩; (obtain ⟨y, rfl⟩ : ∃ m : Nat, y = m := ⟨y.toNat, by omega⟩); have hmk := run_make_ins y (by omega); have X5 := Lib.hid ((XD.out.turn hL).below (w' := w5.alloc (.cells (madeCells #[.int .i64 0, .int .i64 0, .int .i64 0, .int .i64 0, .int .i64 0, .string ⟨#[]⟩] (y * 6)) 32)) ((Below.refl _ _).alloc (Nat.le_refl _) _)); have HL5 : Hid (Left Bc g w3.drew (w5.alloc (.cells (madeCells #[.int .i64 0, .int .i64 0, .int .i64 0, .int .i64 0, .int .i64 0, .string ⟨#[]⟩] (y * 6)) 32))) := Lib.hid ⟨hL.1.alloc' _, hL.2.alloc _⟩; have HI := Lib.hid (meth_d (nm := ⟨#[109]⟩) (by decide) (made_ok y (by omega))); have hs5 := hL.2.size; have HO5 := Lib.hid (ownMethod (f0 := ⟨#[109]⟩) (made_owns w5 y (by omega))); have z5 := (XD.out.turn hL).two.2; have z6 := X5.out.two.2; have z7 : ∀ o, ((w5.alloc (.cells (madeCells #[.int .i64 0, .int .i64 0, .int .i64 0, .int .i64 0, .int .i64 0, .string ⟨#[]⟩] (y * 6)) 32)).alloc o).cell? ⟨w2.heap.size, 1, none⟩ = some (.slice A n c) := (fun o => (X5.out.below ((Below.refl _ _).alloc (Nat.le_refl _) o)).two.2); clear hL))
    all_goals (
      have HN := Lib.hid (HOK.out.add (MethsOk.one HI.out))
      replace X := Lib.hid X8.out.store
      clear XD X8 X5 HL5 HO5
      obtain ⟨y0, y1⟩ := X.out.two
      obtain ⟨q0, q1, q2, q3⟩ := X.out.res.two
      go_wp2_with fail
      have p := X.out.last (.string nm) (.slice A8 (n + 1) c8)
      have p0 := p.2 0 _ rfl
      have p1 := p.2 1 _ rfl
      clear p
      refine bodyPost_ret (v := .agg #[.string nm, .slice A8 (n + 1) c8]) (by simp [results, Tryz.results38, go_sem, p0, p1]; try rfl) rfl ?_
      exact X.out.done ⟨hn8, HN.out.more (by omega)⟩ _ _)
  · have n0 : (x == 0) = false := by simp; omega
    have n1 : (x == 1) = false := by simp; omega
    have n2 : (x == 2) = false := by simp; omega
    have n3 : (x == 3) = false := by simp; omega
    obtain ⟨z0, z1⟩ := X.out.two
    obtain ⟨q0, q1, q2, q3⟩ := X.out.res.two
    go_wp2_with fail
    have p := X.out.last (.string nm) (.slice A n c)
    have p0 := p.2 0 _ rfl
    have p1 := p.2 1 _ rfl
    clear p
    refine bodyPost_ret (v := .agg #[.string nm, .slice A n c]) (by simp [results, Tryz.results38, go_sem, p0, p1]; try rfl) rfl ?_
    exact X.out.done ⟨hn8, HOK.out.more (by omega)⟩ _ _
end Go.Proofs.YtgibhbplgiejpaaGreat
