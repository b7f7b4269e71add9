/- Draws of chapter 8: l8Safe, l8Library, DrawAreSafe, DrawMadeBy, DrawFirstUnset. -/
import Derived.Test.YtgibhbplgiejpaaGreatDraw6L
import Derived.Test.YtgibhbplgiejpaaGreatDraw6D
import Derived.Test.YtgibhbplgiejpaaGreatPLT
import Derived.Deep.RegionHeld3
import Derived.Test.YtgibhbplgiejpaaGreatDraw5A
import Derived.Test.YtgibhbplgiejpaaGreatChkB
import Derived.Deep.RegionLaw
namespace Go.Proofs.YtgibhbplgiejpaaGreat
open Go.RowKit
set_option linter.unusedVariables false
set_option linter.unusedSimpArgs false
theorem own4 {w : World} {a0 a1 a2 a3 b0 b1 b2 b3 : Int} {o0 o1 o2 o3 : Int} : OwnsAll w [.r [.i o0, .i a0, .i b0, .i 0, .i 0, .s ⟨#[]⟩], .r [.i o1, .i a1, .i b1, .i 0, .i 0, .s ⟨#[]⟩], .r [.i o2, .i a2, .i b2, .i 0, .i 0, .s ⟨#[]⟩], .r [.i o3, .i a3, .i b3, .i 0, .i 0, .s ⟨#[]⟩]]
    (#[.int .i64 o0, .int .i64 a0, .int .i64 b0, .int .i64 0, .int .i64 0, .string ⟨#[]⟩, .int .i64 o1, .int .i64 a1, .int .i64 b1, .int .i64 0, .int .i64 0, .string ⟨#[]⟩, .int .i64 o2, .int .i64 a2, .int .i64 b2, .int .i64 0, .int .i64 0, .string ⟨#[]⟩, .int .i64 o3, .int .i64 a3, .int .i64 b3, .int .i64 0, .int .i64 0, .string ⟨#[]⟩] : Array Value).toList (fun _ => False) := by
  rw [OwnsAll]
  refine ⟨[.int .i64 o0, .int .i64 a0, .int .i64 b0, .int .i64 0, .int .i64 0, .string ⟨#[]⟩], _, (fun _ => False), (fun _ => False), rfl, fun b h => h, fun b h => h, fun b h _ => h, ownInstr, ?_⟩
  rw [OwnsAll]
  refine ⟨[.int .i64 o1, .int .i64 a1, .int .i64 b1, .int .i64 0, .int .i64 0, .string ⟨#[]⟩], _, (fun _ => False), (fun _ => False), rfl, fun b h => h, fun b h => h, fun b h _ => h, ownInstr, ?_⟩
  rw [OwnsAll]
  refine ⟨[.int .i64 o2, .int .i64 a2, .int .i64 b2, .int .i64 0, .int .i64 0, .string ⟨#[]⟩], _, (fun _ => False), (fun _ => False), rfl, fun b h => h, fun b h => h, fun b h _ => h, ownInstr, ?_⟩
  rw [OwnsAll]
  exact ⟨[.int .i64 o3, .int .i64 a3, .int .i64 b3, .int .i64 0, .int .i64 0, .string ⟨#[]⟩], [], (fun _ => False), (fun _ => False), rfl, fun b h => h, fun b h => h, fun b h _ => h, ownInstr, by rw [OwnsAll]⟩
theorem lit_ok {x z : Int} (hx : 0 ≤ x ∧ x ≤ 8) (hz : 0 ≤ z ∧ z ≤ 8) : CodeS 4 [.r [.i 2, .i 0, .i 0, .i 0, .i 0, .s ⟨#[]⟩], .r [.i 3, .i 1, .i x, .i 0, .i 0, .s ⟨#[]⟩], .r [.i 4, .i 2, .i 0, .i 0, .i 0, .s ⟨#[]⟩], .r [.i 1, .i 3, .i z, .i 0, .i 0, .s ⟨#[]⟩]] := by
  have h := ((((CodeS.nil 0).snoc (ins_s (op := 2) (a := 0) (b := 0) (c := 0) (d := 0) (nm := ⟨#[]⟩) (by omega) (by omega) (by omega) (by omega) (by omega) (by omega) (by decide))).snoc (ins_s (op := 3) (a := 1) (b := x) (c := 0) (d := 0) (nm := ⟨#[]⟩) (by omega) (by omega) (by omega) (by omega) (by omega) (by omega) (by decide))).snoc (ins_s (op := 4) (a := 2) (b := 0) (c := 0) (d := 0) (nm := ⟨#[]⟩) (by omega) (by omega) (by omega) (by omega) (by omega) (by omega) (by decide))).snoc (ins_s (op := 1) (a := 3) (b := z) (c := 0) (d := 0) (nm := ⟨#[]⟩) (by omega) (by omega) (by omega) (by omega) (by omega) (by omega) (by decide))
  exact h
set_option maxRecDepth 100000 in
set_option maxHeartbeats 8000000 in
theorem l8Safe (Bc g : Nat) (nm : ByteArray) (w : World) (hc : Cur w Bc g) : Calls Tryz.prog 25 #[.pointer (some ⟨g, 0, none⟩), .string nm] w (DrewG Bc g 32 6 (MethS 10 nm) w) := by
  obtain ⟨i0, hi, hz0, hz1, hz2⟩ := info_parts infoInstr
  have hg := hc.lt
  have Z := Lib.hid (Zb.new w #[.string ⟨#[]⟩, .slice none 0 0] 26 (Nat.le_refl _))
  have HL : Hid (Left Bc g w (w.alloc (.cells #[.string ⟨#[]⟩, .slice none 0 0] 26))) := Lib.hid ⟨hc.alloc' _, (Turn.refl g w).alloc _⟩
  have hne : w.heap.size ≠ g := by omega
  have HNE := Lib.hid hne
  clear hc hne
  go_enter Tryz.func25, Tryz.ntmps25
  go_wp2_with fail
  refine (l1Below Bc g 2 _ (by omega) (by omega) HL.out.1).mono ?_
  rintro e w1 ⟨x, hx0, hx1, rfl, hL⟩
  replace Z := Lib.hid (Z.out.turn hL.2 HNE.out)
  have hw1 : w.heap.size < w1.heap.size := by have h1 := hL.2.size; rw [World.size_alloc] at h1; omega
  replace HL := Lib.hid (HL.out.trans hL)
  clear hL
  go_wp2_with fail
  refine (l1Below Bc g 5 _ (by omega) (by omega) HL.out.1).mono ?_
  rintro e w2 ⟨z, hy0, hy1, rfl, hL⟩
  have hw2 := hL.2.size
  replace Z := Lib.hid (Z.out.turn hL.2 HNE.out)
  replace HL := Lib.hid (HL.out.trans hL)
  clear hL
  have HK := Lib.hid (lit_ok (x := x) (z := z) (by omega) (by omega))
  have G := Grow.lit (E := 32) (k := 6) (lo := w.heap.size + 1) (m := 4) (w := w2) _ (own4 (w := w2) (o0 := 2) (a0 := 0) (b0 := 0) (o1 := 3) (a1 := 1) (b1 := x) (o2 := 4) (a2 := 2) (b2 := 0) (o3 := 1) (a3 := 3) (b3 := z)) rfl (fun y hy => by simp at hy; rcases hy with rfl | rfl | rfl | rfl <;> rfl) (fun b h => h.elim) (by omega) (by omega)
  have F : Left Bc g w (w2.alloc (.cells #[.int .i64 2, .int .i64 0, .int .i64 0, .int .i64 0, .int .i64 0, .string ⟨#[]⟩, .int .i64 3, .int .i64 1, .int .i64 x, .int .i64 0, .int .i64 0, .string ⟨#[]⟩, .int .i64 4, .int .i64 2, .int .i64 0, .int .i64 0, .int .i64 0, .string ⟨#[]⟩, .int .i64 1, .int .i64 3, .int .i64 z, .int .i64 0, .int .i64 0, .string ⟨#[]⟩] 32)) := HL.out.trans ⟨HL.out.1.alloc' _, (Turn.refl g w2).alloc _⟩
  have hX := MkSt.of_drew (nm := nm) (Z.out.below ((Below.refl _ _).alloc (Nat.le_refl _) _)) F hg G (fun b h => h.elim) (by omega) (by rw [World.size_alloc]; omega) 26
  rw [World.size_alloc] at hX
  have X := Lib.hid hX
  clear hX F G Z HL
  go_wp2_with fail
  refine (l1Below Bc g 6 _ (by omega) (by omega) X.out.cur).mono ?_
  rintro e w3 ⟨x3, hx0', hx1', rfl, hL⟩
  obtain ⟨y, rfl⟩ : ∃ y : Nat, x3 = y := ⟨x3.toNat, by omega⟩
  replace X := Lib.hid (X.out.turn hL)
  clear hL
  go_wp2_with fail
  go_loopw [6] (fun iv wr => ∃ (i : Nat) (A : Option Addr) (n c : Nat) (L : List Dat), iv = .int .i64 i ∧ n + i ≤ 9 ∧ CodeS n L ∧ MkSt w Bc g 32 6 (w.heap.size + 1) (w2.heap.size + 1) [] [.string ⟨#[]⟩, .slice none 0 0] nm A n c A n c L wr) (fun iv _ => (intOf iv).toNat)
  case atStart => exact ⟨y, _, 4, 4, _, by go_num, by omega, HK.out, X.out⟩
  case round =>
    obtain ⟨i, A, n, c, L, rfl, hni, hok, hX⟩ := hrel
    replace X := Lib.hid hX
    have HOK := Lib.hid hok
    clear hX hok
    by_cases hlt : 0 < i
    · obtain ⟨j, rfl⟩ : ∃ j, i = j + 1 := ⟨i - 1, by omega⟩
      obtain ⟨z0, z1⟩ := X.out.two
      have XD := Lib.hid (X.out.below (Below.refl _ _).drew)
      go_wp2_with fail
      go_region_law (first
        | (refine step_app rfl _ _ 24 rfl (by omega) i0 _ 56 Tryz.underlying24 hi hz0 hz1 rfl hz2 XD.out HL5.out _ 1 1 [.r [.i op, .i a, .i b, .i cc, .i dd, .s nm5]] (fun _ => False) (Src.lit rfl (ownInstr (Iv := fun _ => False)) rfl (fun b h => h.elim)) (fun b h => h.elim) rfl rfl (by omega) (by omega) ?_; intro A8 c8 w8 hM8; have X8 := Lib.hid hM8; (obtain ⟨z0, z1⟩ := X8.out.two); (obtain ⟨f0, f1⟩ := X8.out.free); clear hM8)
        | (go_simp; go_at_call 53; (with_reducible refine (l5InstrS Bc g _ XD.out.cur).mono ?_); rintro e w5 ⟨⟨op, a, b, cc, dd, nm5⟩, ⟨hnm, h64, h7⟩, rfl, hL⟩; have HI := Lib.hid (ins_s h7 h64.1 h64.2.1 h64.2.2.1 h64.2.2.2.1 h64.2.2.2.2 hnm); have X5 := Lib.hid (XD.out.turn hL); have HL5 := Lib.hid hL; have z6 : ∀ o, (w5.alloc o).cell? ⟨w2.heap.size + 1, 1, none⟩ = some (.slice A n c) := (fun o => (X5.out.below ((Below.refl _ _).alloc (Nat.le_refl _) o)).two.2); have z5 := X5.out.two.2; clear hL hnm h64 h7))
      all_goals (
        have HN := Lib.hid (HOK.out.snoc HI.out)
        have XN := Lib.hid X8.out.store
        clear XD X5 HL5 X8
        go_wp2_with fail
        go_roundw
        case rel => exact ⟨j, A8, n + 1, c8, _, by go_num, by omega, HN.out, XN.out⟩
        case measure => (simp [intOf]))
    · obtain rfl : i = 0 := by omega
      go_wp2_with fail
      refine (l1Once Bc g 2 _ (by omega) (by omega) X.out.cur).mono ?_
      rintro e w4 ⟨v, rfl, hL⟩
      replace X := Lib.hid (X.out.turn hL)
      clear hL
      cases v with
      | true =>
        obtain ⟨z0, z1⟩ := X.out.two
        have XD := Lib.hid (X.out.below (Below.refl _ _).drew)
        go_wp2_with fail
        go_region_law (first
          | (refine step_app rfl _ _ 24 rfl (by omega) i0 _ 56 Tryz.underlying24 hi hz0 hz1 rfl hz2 XD.out HL5.out _ 1 1 [.r [.i 10, .i xr, .i 0, .i 0, .i 0, .s ⟨#[]⟩]] (fun _ => False) (Src.lit rfl (ownInstr (Iv := fun _ => False)) rfl (fun b h => h.elim)) (fun b h => h.elim) rfl rfl (by omega) (by omega) ?_; intro A8 c8 w8 hM8; have X8 := Lib.hid hM8; (obtain ⟨z0, z1⟩ := X8.out.two); (obtain ⟨f0, f1⟩ := X8.out.free); clear hM8)
          | (go_simp; go_at_call 52; (with_reducible refine (l1Below Bc g 4 _ (by omega) (by omega) XD.out.cur).mono ?_); rintro e w5 ⟨xr, hr0, hr1, rfl, hL⟩; have HI : Hid ((Has tyInstr (.r [.i 10, .i xr, .i 0, .i 0, .i 0, .s ⟨#[]⟩]) ∧ (Dat.r [.i 10, .i xr, .i 0, .i 0, .i 0, .s ⟨#[]⟩]).bulk ≤ 8) ∧ SmlD (.r [.i 10, .i xr, .i 0, .i 0, .i 0, .s ⟨#[]⟩])) := Lib.hid (ins_s (by omega) (by omega) (by omega) (by omega) (by omega) (by omega) (by decide)); have X5 := Lib.hid (XD.out.turn hL); have HL5 := Lib.hid hL; have z6 : ∀ o, (w5.alloc o).cell? ⟨w2.heap.size + 1, 1, none⟩ = some (.slice A n c) := (fun o => (X5.out.below ((Below.refl _ _).alloc (Nat.le_refl _) o)).two.2); have z5 := X5.out.two.2; clear hL))
        all_goals (
          have HN := Lib.hid (HOK.out.snoc HI.out)
          have XN := Lib.hid X8.out.store
          clear XD X5 HL5 X8 z0 z1 f0 f1 z5 z6 X
          obtain ⟨z0, z1⟩ := XN.out.two
          obtain ⟨q0, q1, q2, q3⟩ := XN.out.res.two
          go_wp2_with fail
          have p := XN.out.last (.string nm) (.slice A8 (n + 1) c8)
          have p0 := p.2 0 _ rfl
          have p1 := p.2 1 _ rfl
          clear p
          refine bodyPost_ret (v := .agg #[.string nm, .slice A8 (n + 1) c8]) (by simp [results, Tryz.results25, go_sem, p0, p1]; try rfl) rfl ?_
          exact XN.out.done ⟨rfl, HN.out.more (by omega)⟩ _ _)
      | false =>
        obtain ⟨z0, z1⟩ := X.out.two
        obtain ⟨q0, q1, q2, q3⟩ := X.out.res.two
        go_wp2_with fail
        have p := X.out.last (.string nm) (.slice A n c)
        have p0 := p.2 0 _ rfl
        have p1 := p.2 1 _ rfl
        clear p
        refine bodyPost_ret (v := .agg #[.string nm, .slice A n c]) (by simp [results, Tryz.results25, go_sem, p0, p1]; try rfl) rfl ?_
        exact X.out.done ⟨rfl, HOK.out.more (by omega)⟩ _ _
/-- The text is a library of one script, which is small. -/
def oneD (s : List UInt8) : Bool := match ((parseL s).getD []).map datS with
  | [d] => decide (d.bulk ≤ 2000)
  | _ => false
theorem one_scr {s : List UInt8} (h : oneD s = true) : ∃ d, ((parseL s).getD []).map datS = [d] ∧ ScrD d := by
  obtain ⟨-, h2, -⟩ := parse_facts s
  unfold oneD at h
  generalize ((parseL s).getD []).map datS = D at h h2 ⊢
  match D, h, h2 with
  | [d], h, h2 => exact ⟨d, rfl, h2 d (by simp), of_decide_eq_true h⟩
  | [], h, h2 => cases h
  | _ :: _ :: _, h, h2 => cases h
def OneScr (w : World) (e : Ending) (w' : World) : Prop := ∃ (b : Bool) (A : Option Addr) (c : Nat) (d : Dat), e = .returned (.tuple #[.slice A 1 c, .bool b]) ∧ ScrD d ∧ Owns w' (.l [d]) [.slice A 1 c] (fun b => w.heap.size ≤ b ∧ b < w'.heap.size) ∧ Below w.heap.size w w'
theorem specPL_one (s : ByteArray) (w : World) (h : oneD s.data.toList = true) (hs : s.size ≤ 1099511627776) : Calls Tryz.prog 76 #[.string s] w (OneScr w) := by
  obtain ⟨d, hd, hD⟩ := one_scr h
  refine (specPL s w hs).mono ?_
  rintro e w' ⟨A, n, c, rfl, hO, hb⟩
  rw [hd] at hO
  obtain rfl : n = 1 := hO.lies.count.symm
  exact ⟨_, A, c, d, rfl, hD, hO, hb⟩
theorem Owns.head {w : World} {A : Option Addr} {c : Nat} {d : Dat} {B : Nat → Prop} (h : Owns w (.l [d]) [.slice A 1 c] B) (ht : Has tyScript d) : ∃ (g : Nat) (nm : ByteArray) (L : List Dat) (A' : Option Addr) (n' c' : Nat), A = some ⟨g, 0, none⟩ ∧ d = .r [.s nm, .l L] ∧ w.cell? ⟨g, 0, none⟩ = some (.string nm) ∧ w.cell? ⟨g, 1, none⟩ = some (.slice A' n' c') ∧ Owns w (.r [.s nm, .l L]) [.string nm, .slice A' n' c'] B := by
  obtain ⟨g, E, cur, d', xs, Bi, Br, rfl, -, -, hd, ho, -, hBi, -, hc, -⟩ := h.focus (k := 2) (i := 0) (fun x hx => by rw [List.mem_singleton.1 hx]; exact ht.width) (by omega)
  obtain rfl : d = d' := by simpa using hd
  obtain ⟨nm, L, A', n', c', rfl, rfl, -⟩ := invScript ht ho.lies
  exact ⟨g, nm, L, A', n', c', rfl, rfl, hc 0 _ rfl, hc 1 _ rfl, ho.mono fun b hb => (hBi b hb).1⟩
theorem own3 {w : World} {d1 d2 d3 : Dat} {x1 x2 x3 : List Value} {B1 B2 B3 B : Nat → Prop} (h1 : Owns w d1 x1 B1) (h2 : Owns w d2 x2 B2) (h3 : Owns w d3 x3 B3) (e12 : ∀ b, B1 b → ¬ B2 b) (e13 : ∀ b, B1 b → ¬ B3 b) (e23 : ∀ b, B2 b → ¬ B3 b) (s1 : ∀ b, B1 b → B b) (s2 : ∀ b, B2 b → B b) (s3 : ∀ b, B3 b → B b) : OwnsAll w [d1, d2, d3] (x1 ++ (x2 ++ (x3 ++ []))) B := by
  rw [OwnsAll]
  refine ⟨x1, _, B1, (fun b => B2 b ∨ B3 b), rfl, s1, fun b h => h.elim (s2 b) (s3 b), fun b h h' => h'.elim (e12 b h) (e13 b h), h1, ?_⟩
  rw [OwnsAll]
  refine ⟨x2, _, B2, B3, rfl, fun b h => Or.inl h, fun b h => Or.inr h, e23, h2, ?_⟩
  rw [OwnsAll]
  exact ⟨x3, _, B3, (fun _ => False), rfl, fun b h => h, fun b h => h.elim, fun b _ h => h, h3, by rw [OwnsAll]⟩
theorem own1 {w : World} {d : Dat} {x : List Value} {B : Nat → Prop} (h : Owns w d x B) : OwnsAll w [d] (x ++ []) B := by
  rw [OwnsAll]
  exact ⟨x, _, B, (fun _ => False), rfl, fun b h => h, fun b h => h.elim, fun b _ h => h, h, by rw [OwnsAll]⟩
theorem MethS.d {m : Nat} {nm nm' : ByteArray} {L : List Dat} (h : MethS m nm nm' L) (hm : m ≤ 13) (hn : nm.size ≤ 8) : MethD (.r [.s nm', .l L]) := meth_d (by rw [h.1]; exact hn) (h.2.1.more hm)
/-- The end of l8Library: three scripts, each of its own. -/
theorem lib_done {Bc g q : Nat} {W w : World} (hq : w.heap.size = q) {n1 n2 n3 : ByteArray} {L1 L2 L3 : List Dat} {A1 A2 A3 : Option Addr} {m1 m2 m3 c1 c2 c3 : Nat} {B1 B2 B3 : Nat → Prop} (h1 : Owns w (.r [.s n1, .l L1]) [.string n1, .slice A1 m1 c1] B1) (h2 : Owns w (.r [.s n2, .l L2]) [.string n2, .slice A2 m2 c2] B2) (h3 : Owns w (.r [.s n3, .l L3]) [.string n3, .slice A3 m3 c3] B3)
    (e12 : ∀ b, B1 b → ¬ B2 b) (e13 : ∀ b, B1 b → ¬ B3 b) (e23 : ∀ b, B2 b → ¬ B3 b) (s1 : ∀ b, B1 b → W.heap.size ≤ b ∧ b < w.heap.size) (s2 : ∀ b, B2 b → W.heap.size ≤ b ∧ b < w.heap.size) (s3 : ∀ b, B3 b → W.heap.size ≤ b ∧ b < w.heap.size)
    (k1 : ScrD (.r [.s n1, .l L1])) (k2 : ScrD (.r [.s n2, .l L2])) (k3 : ScrD (.r [.s n3, .l L3])) (hL : Left Bc g W w) (hs : W.heap.size ≤ w.heap.size) :
    DrewL Bc g 3 W (.returned (.slice (some ⟨q, 0, none⟩) 3 3)) (w.alloc (.cells #[.string n1, .slice A1 m1 c1, .string n2, .slice A2 m2 c2, .string n3, .slice A3 m3 c3] 37)) := by
  subst hq
  have O := own3 (B := fun b => W.heap.size ≤ b ∧ b < w.heap.size) h1 h2 h3 e12 e13 e23 s1 s2 s3
  have G := Grow.lit (E := 37) (k := 2) (lo := W.heap.size) (m := 3) (#[.string n1, .slice A1 m1 c1, .string n2, .slice A2 m2 c2, .string n3, .slice A3 m3 c3] : Array Value) O rfl (fun x hx => by simp at hx; rcases hx with rfl | rfl | rfl <;> rfl) (fun b h => h.2) hs (by omega)
  exact ⟨_, _, _, _, _, rfl, G, fun b h => h.1, (ScrsOk.one k1).add ((ScrsOk.one k2).add (ScrsOk.one k3)), hL.trans ⟨hL.1.alloc' _, (Turn.refl g w).alloc _⟩⟩
set_option maxRecDepth 100000 in
set_option maxHeartbeats 8000000 in
theorem l8Library (Bc g : Nat) (w : World) (hc : Cur w Bc g) : Calls Tryz.prog 37 #[.pointer (some ⟨g, 0, none⟩)] w (DrewL Bc g 3 w) := by
  have hg := hc.lt
  have HC := Lib.hid hc
  clear hc
  go_enter Tryz.func37, Tryz.ntmps37
  go_wp2_with fail
  refine (specPL_one _ _ (by kernel_rfl) (of_decide_eq_true (by kernel_rfl))).mono ?_
  rintro e w1 ⟨b1, A1, c1, d1, rfl, hd1, hO1, hb1⟩
  have hs1 := hb1.size
  have HL1 := Lib.hid (Left.of_below HC.out hb1)
  have HO1 := Lib.hid hO1
  have HD1 := Lib.hid hd1
  clear hO1 hb1 hd1
  go_wp2_with fail
  refine (specPL_one _ _ (by kernel_rfl) (of_decide_eq_true (by kernel_rfl))).mono ?_
  rintro e w2 ⟨b2, A2, c2, d2, rfl, hd2, hO2, hb2⟩
  have hs2 := hb2.size
  have HL2 := Lib.hid (HL1.out.trans (Left.of_below HL1.out.1 hb2))
  replace HO1 := Lib.hid (HO1.out.below hb2)
  have HO2 := Lib.hid hO2
  have HD2 := Lib.hid hd2
  clear hO2 hb2 hd2 HL1
  go_wp2_with fail
  refine (specPL_one _ _ (by kernel_rfl) (of_decide_eq_true (by kernel_rfl))).mono ?_
  rintro e w3 ⟨b3, A3, c3, d3, rfl, hd3, hO3, hb3⟩
  have hs3 := hb3.size
  have HL3 := Lib.hid (HL2.out.trans (Left.of_below HL2.out.1 hb3))
  replace HO1 := Lib.hid (HO1.out.below hb3)
  replace HO2 := Lib.hid (HO2.out.below hb3)
  have HO3 := Lib.hid hO3
  have HD3 := Lib.hid hd3
  clear hO3 hb3 hd3 HL2
  go_wp2_with fail
  refine (l1Once Bc g 3 _ (by omega) (by omega) HL3.out.1).mono ?_
  rintro e w4 ⟨v, rfl, hL⟩
  have hs4 := hL.2.size
  replace HO1 := Lib.hid (HO1.out.left hL (fun b h => h.1) hg)
  replace HO2 := Lib.hid (HO2.out.left hL (fun b h => h.1) (by omega))
  replace HO3 := Lib.hid (HO3.out.left hL (fun b h => h.1) (by omega))
  have HL4 := Lib.hid (HL3.out.trans hL)
  clear hL HL3
  cases v with
  | false =>
    have HLF := HL4
    obtain ⟨g1, n1, L1, X1, m1, k1, e1, f1, x10, x11, hX1⟩ := HO1.out.head HD1.out.1
    subst e1 f1
    obtain ⟨g2, n2, L2, X2, m2, k2, e2, f2, x20, x21, hX2⟩ := HO2.out.head HD2.out.1
    subst e2 f2
    obtain ⟨g3, n3, L3, X3, m3, k3, e3, f3, x30, x31, hX3⟩ := HO3.out.head HD3.out.1
    subst e3 f3
    have F := Lib.hid (fun k => lib_done (q := w4.heap.size) (W := w) (w := (w4).drewN k) (by first | rfl | simp only [World.heap_drewN, World.size_alloc]) (hX1.below (below_drewN (Below.refl _ _) k)) (hX2.below (below_drewN (Below.refl _ _) k)) (hX3.below (below_drewN (Below.refl _ _) k)) (fun b h h' => by omega) (fun b h h' => by omega) (fun b h h' => by omega) (fun b h => ⟨by omega, by show _ < w4.heap.size; omega⟩) (fun b h => ⟨by omega, by show _ < w4.heap.size; omega⟩) (fun b h => ⟨by omega, by show _ < w4.heap.size; omega⟩) HD1.out HD2.out HD3.out (HLF.out.drewN k) (by show w.heap.size ≤ w4.heap.size; omega))
    clear hX1 hX2 hX3 HO1 HO3 HO2
    go_wp2_with fail
    go_region_held3 (fun w' => w'.cell? ⟨g1, 0, none⟩ = some (.string n1) ∧ w'.cell? ⟨g1, 1, none⟩ = some (.slice X1 m1 k1) ∧ w'.cell? ⟨g2, 0, none⟩ = some (.string n2) ∧ w'.cell? ⟨g2, 1, none⟩ = some (.slice X2 m2 k2) ∧ w'.cell? ⟨g3, 0, none⟩ = some (.string n3) ∧ w'.cell? ⟨g3, 1, none⟩ = some (.slice X3 m3 k3))
      (first | exact ⟨x10, x11, x20, x21, x30, x31⟩ | go_keep)
      (first | fail)
    go_wp2_with fail
    go_ret
    first | exact F.out _ | exact F.out 1 | exact F.out 0
  | true =>
    clear HO2 HD2
    go_wp2_with fail
    refine (l8Safe Bc g ⟨#[103, 101, 116]⟩ _ HL4.out.1).mono ?_
    rintro e w5 ⟨p1, P1, q1, t1, M1, Bs1, rfl, hG, hB, hP, hL⟩
    have hs5 := hL.2.size
    have a1 := Lib.hid (fun b h => hG.all hB b h)
    have HM1 := Lib.hid (hP.d (by omega) (by decide))
    have o1 := Lib.hid (ownMeth (nm := p1) hG)
    replace HO1 := Lib.hid (HO1.out.left hL (fun b h => h.1) hg)
    replace HO3 := Lib.hid (HO3.out.left hL (fun b h => h.1) (by omega))
    have HL5 := Lib.hid (HL4.out.trans hL)
    clear hG hB hP hL HL4
    go_wp2_with fail
    refine (l8Safe Bc g ⟨#[115, 101, 116]⟩ _ HL5.out.1).mono ?_
    rintro e w6 ⟨p2, P2, q2, t2, M2, Bs2, rfl, hG, hB, hP, hL⟩
    have hs6 := hL.2.size
    have a2 := Lib.hid (fun b h => hG.all hB b h)
    have HM2 := Lib.hid (hP.d (by omega) (by decide))
    have o2 := Lib.hid (ownMeth (nm := p2) hG)
    replace o1 := Lib.hid (o1.out.left hL (fun b h => (a1.out b h).1) (by omega))
    replace HO1 := Lib.hid (HO1.out.left hL (fun b h => h.1) hg)
    replace HO3 := Lib.hid (HO3.out.left hL (fun b h => h.1) (by omega))
    have HL6 := Lib.hid (HL5.out.trans hL)
    clear hG hB hP hL HL5
    go_wp2_with fail
    refine (l8Safe Bc g ⟨#[97, 100, 100]⟩ _ HL6.out.1).mono ?_
    rintro e w7 ⟨p3, P3, q3, t3, M3, Bs3, rfl, hG, hB, hP, hL⟩
    have hs7 := hL.2.size
    have a3 := Lib.hid (fun b h => hG.all hB b h)
    have HM3 := Lib.hid (hP.d (by omega) (by decide))
    have o3 := Lib.hid (ownMeth (nm := p3) hG)
    replace o1 := Lib.hid (o1.out.left hL (fun b h => (a1.out b h).1) (by omega))
    replace o2 := Lib.hid (o2.out.left hL (fun b h => (a2.out b h).1) (by omega))
    replace HO1 := Lib.hid (HO1.out.left hL (fun b h => h.1) hg)
    replace HO3 := Lib.hid (HO3.out.left hL (fun b h => h.1) (by omega))
    have HL7 := Lib.hid (HL6.out.trans hL)
    clear hG hB hP hL HL6
    go_wp2_with fail
    refine (l8Safe Bc g ⟨#[103, 111]⟩ _ HL7.out.1).mono ?_
    rintro e w8 ⟨p4, P4, q4, t4, M4, Bs4, rfl, hG, hB, hP, hL⟩
    have hs8 := hL.2.size
    have a4 := Lib.hid (fun b h => hG.all hB b h)
    have HM4 := Lib.hid (hP.d (by omega) (by decide))
    have o4 := Lib.hid (ownMeth (nm := p4) hG)
    replace o1 := Lib.hid (o1.out.left hL (fun b h => (a1.out b h).1) (by omega))
    replace o2 := Lib.hid (o2.out.left hL (fun b h => (a2.out b h).1) (by omega))
    replace o3 := Lib.hid (o3.out.left hL (fun b h => (a3.out b h).1) (by omega))
    replace HO1 := Lib.hid (HO1.out.left hL (fun b h => h.1) hg)
    replace HO3 := Lib.hid (HO3.out.left hL (fun b h => h.1) (by omega))
    have HL8 := Lib.hid (HL7.out.trans hL)
    clear hG hB hP hL HL7
    have O4 : Hid (OwnsAll w8 [.r [.s p1, .l M1], .r [.s p2, .l M2], .r [.s p3, .l M3], .r [.s p4, .l M4]] (#[.string p1, .slice P1 q1 t1, .string p2, .slice P2 q2 t2, .string p3, .slice P3 q3 t3, .string p4, .slice P4 q4 t4] : Array Value).toList (fun b => w4.heap.size ≤ b ∧ b < w8.heap.size)) := Lib.hid (OwnsAll.cons_ o1.out a1.out (OwnsAll.cons_ o2.out a2.out (OwnsAll.cons_ o3.out a3.out (OwnsAll.cons_ o4.out a4.out (OwnsAll.nil_ _ _) (by omega) (Nat.le_refl _)) (by omega) (by omega)) (by omega) (by omega)) (by omega) (by omega))
    have GM := Grow.lit (E := 26) (k := 2) (lo := w4.heap.size) (m := 4) _ O4.out rfl (fun x hx => by simp at hx; rcases hx with rfl | rfl | rfl | rfl <;> rfl) (fun b h => h.2) (by omega) (by omega)
    have OS : Owns (w8.alloc (.cells #[.string p1, .slice P1 q1 t1, .string p2, .slice P2 q2 t2, .string p3, .slice P3 q3 t3, .string p4, .slice P4 q4 t4] 26)) (.r [.s ⟨#[112, 114, 111, 120, 121]⟩, .l [.r [.s p1, .l M1], .r [.s p2, .l M2], .r [.s p3, .l M3], .r [.s p4, .l M4]]]) [.string ⟨#[112, 114, 111, 120, 121]⟩, .slice (some ⟨w8.heap.size, 0, none⟩) 4 4] (fun b => w4.heap.size ≤ b ∧ b < w8.heap.size + 1) := (ownScr (nm := ⟨#[112, 114, 111, 120, 121]⟩) GM).mono (fun b hb => hb.elim (fun ⟨a, e, h⟩ => by obtain rfl := Option.some.inj e; subst h; show w4.heap.size ≤ w8.heap.size ∧ w8.heap.size < _; omega) (fun hb => by omega))
    have GP := Grow.lit (E := 37) (k := 2) (lo := w4.heap.size) (m := 1) (w := w8.alloc (.cells #[.string p1, .slice P1 q1 t1, .string p2, .slice P2 q2 t2, .string p3, .slice P3 q3 t3, .string p4, .slice P4 q4 t4] 26)) (#[.string ⟨#[112, 114, 111, 120, 121]⟩, .slice (some ⟨w8.heap.size, 0, none⟩) 4 4] : Array Value) (own1 OS) rfl (fun x hx => by rw [List.mem_singleton.1 hx]; rfl) (fun b h => by rw [World.size_alloc]; exact h.2) (by rw [World.size_alloc]; omega) (by omega)
    have OP : Owns ((w8.alloc (.cells #[.string p1, .slice P1 q1 t1, .string p2, .slice P2 q2 t2, .string p3, .slice P3 q3 t3, .string p4, .slice P4 q4 t4] 26)).alloc (.cells #[.string ⟨#[112, 114, 111, 120, 121]⟩, .slice (some ⟨w8.heap.size, 0, none⟩) 4 4] 37)) (.l [.r [.s ⟨#[112, 114, 111, 120, 121]⟩, .l [.r [.s p1, .l M1], .r [.s p2, .l M2], .r [.s p3, .l M3], .r [.s p4, .l M4]]]]) [.slice (some ⟨w8.heap.size + 1, 0, none⟩) 1 1] (fun b => w4.heap.size ≤ b ∧ b < w8.heap.size + 2) := by
      have h := GP.owns
      rw [World.size_alloc] at h
      exact h.mono (fun b hb => hb.elim (fun ⟨a, e, h⟩ => by obtain rfl := Option.some.inj e; subst h; show w4.heap.size ≤ w8.heap.size + 1 ∧ w8.heap.size + 1 < _; omega) (fun hb => by omega))
    have HOP := Lib.hid OP
    have HDP : Hid (ScrD (.r [.s ⟨#[112, 114, 111, 120, 121]⟩, .l [.r [.s p1, .l M1], .r [.s p2, .l M2], .r [.s p3, .l M3], .r [.s p4, .l M4]]])) := Lib.hid (scr_d (by decide) (((MethsOk.one HM1.out).add ((MethsOk.one HM2.out).add ((MethsOk.one HM3.out).add (MethsOk.one HM4.out)))).more (by omega)))
    have hbb : Below w8.heap.size w8 ((w8.alloc (.cells #[.string p1, .slice P1 q1 t1, .string p2, .slice P2 q2 t2, .string p3, .slice P3 q3 t3, .string p4, .slice P4 q4 t4] 26)).alloc (.cells #[.string ⟨#[112, 114, 111, 120, 121]⟩, .slice (some ⟨w8.heap.size, 0, none⟩) 4 4] 37)) := ((Below.refl _ _).alloc (Nat.le_refl _) _).alloc (by rw [World.size_alloc]; omega) _
    replace HO1 := Lib.hid (HO1.out.below hbb)
    replace HO3 := Lib.hid (HO3.out.below hbb)
    have HLF := Lib.hid (HL8.out.low hbb (by omega) (by omega))
    clear O4 GM OS GP OP o1 o2 o3 o4 a1 a2 a3 a4 HM1 HM2 HM3 HM4 HL8 hbb
    obtain ⟨g1, n1, L1, X1, m1, k1, e1, f1, x10, x11, hX1⟩ := HO1.out.head HD1.out.1
    subst e1 f1
    obtain ⟨g2, n2, L2, X2, m2, k2, e2, f2, x20, x21, hX2⟩ := HOP.out.head HDP.out.1
    obtain ⟨rfl⟩ := e2
    simp only [Dat.r.injEq, List.cons.injEq, Dat.s.injEq, Dat.l.injEq, and_true] at f2
    obtain ⟨rfl, rfl⟩ := f2
    obtain ⟨g3, n3, L3, X3, m3, k3, e3, f3, x30, x31, hX3⟩ := HO3.out.head HD3.out.1
    subst e3 f3
    have F := Lib.hid (fun k => lib_done (q := w8.heap.size + 1 + 1) (W := w) (w := ((w8.alloc (.cells #[.string p1, .slice P1 q1 t1, .string p2, .slice P2 q2 t2, .string p3, .slice P3 q3 t3, .string p4, .slice P4 q4 t4] 26)).alloc (.cells #[.string ⟨#[112, 114, 111, 120, 121]⟩, .slice (some ⟨w8.heap.size, 0, none⟩) 4 4] 37)).drewN k) (by first | rfl | simp only [World.heap_drewN, World.size_alloc]) (hX1.below (below_drewN (Below.refl _ _) k)) (hX2.below (below_drewN (Below.refl _ _) k)) (hX3.below (below_drewN (Below.refl _ _) k)) (fun b h h' => by omega) (fun b h h' => by omega) (fun b h h' => by omega) (fun b h => ⟨by omega, by simp only [World.heap_drewN, World.size_alloc]; omega⟩) (fun b h => ⟨by omega, by simp only [World.heap_drewN, World.size_alloc]; omega⟩) (fun b h => ⟨by omega, by simp only [World.heap_drewN, World.size_alloc]; omega⟩) HD1.out HDP.out HD3.out (HLF.out.drewN k) (by simp only [World.heap_drewN, World.size_alloc]; omega))
    clear hX1 hX2 hX3 HO1 HO3 HOP
    go_wp2_with fail
    go_region_held3 (fun w' => w'.cell? ⟨g1, 0, none⟩ = some (.string n1) ∧ w'.cell? ⟨g1, 1, none⟩ = some (.slice X1 m1 k1) ∧ w'.cell? ⟨w8.heap.size + 1, 0, none⟩ = some (.string ⟨#[112, 114, 111, 120, 121]⟩) ∧ w'.cell? ⟨w8.heap.size + 1, 1, none⟩ = some (.slice X2 m2 k2) ∧ w'.cell? ⟨g3, 0, none⟩ = some (.string n3) ∧ w'.cell? ⟨g3, 1, none⟩ = some (.slice X3 m3 k3))
      (first | exact ⟨x10, x11, x20, x21, x30, x31⟩ | go_keep)
      (first | fail)
    go_wp2_with fail
    go_ret
    first | exact F.out _ | exact F.out 1 | exact F.out 0
set_option maxRecDepth 100000 in
set_option maxHeartbeats 8000000 in
theorem drawSafes (A : Option Addr) (n c : Nat) (w : World) (hC : Code w A n) (hn : n ≤ 1048576) : Calls Tryz.prog 10 #[.slice A n c] w (DrewLib w) := by
  obtain ⟨i0, hi, hz0, hz1, hz2⟩ := info_parts infoScr
  have HC := Lib.hid hC
  clear hC
  go_enter Tryz.func10, Tryz.ntmps10
  go_wp2_with fail
  refine (l1New A n c _ HC.out hn).mono ?_
  rintro e w1 ⟨g, rfl, hcur, hb1⟩
  have hg := hcur.lt
  have hge := hcur.ge
  have HB := Lib.hid hb1
  have HCUR := Lib.hid hcur
  have hs1 := hb1.size
  clear hcur hb1
  go_wp2_with fail
  refine (l8Library _ g _ HCUR.out).mono ?_
  rintro e w2 ⟨A2, n2, c2, L, Bs, rfl, hG, hBs, hP, hL⟩
  have HG := Lib.hid hG
  have HBS := Lib.hid hBs
  have hn2 : n2 ≤ 3 := by have h1 := hG.owns.lies.count; have := hP.1; omega
  have HP := Lib.hid hP
  have HL := Lib.hid hL
  have hs2 := hL.2.size
  clear hG hBs hP hL HCUR
  go_wp2_with fail
  refine (l1Once _ g 3 _ (by omega) (by omega) HL.out.1).mono ?_
  rintro e w3 ⟨v, rfl, hL⟩
  have hs3 := hL.2.size
  have HG3 := Lib.hid (HG.out.touch (Touch.of_turn hL.2) (fun a e e2 => by have := (HG.out.blk a e).1; omega) (fun b hb e2 => by have := HBS.out b hb; omega))
  have HA3 := Lib.hid (HG3.out.all HBS.out)
  have HL3 := Lib.hid (HL.out.trans hL)
  clear hL HG HL
  cases v with
  | true =>
    go_wp2_with fail
    refine (l6Any _ g _ HL3.out.1).mono ?_
    rintro e w4 ⟨m4, A4, n4, c4, L4, Bs4, rfl, hG4, hB4, hP4, hL⟩
    have HD := Lib.hid hP4.d
    have O4 := Lib.hid (ownScr (nm := m4) hG4)
    have HA4 := Lib.hid (hG4.all hB4)
    have HG4 := Lib.hid ((HG3.out.touch (Touch.of_turn hL.2) (fun a e e2 => by have := (HG3.out.blk a e).1; omega) (fun b hb e2 => by have := HBS.out b hb; omega)).below (w' := w4.alloc (.cells #[.string m4, .slice A4 n4 c4] 37)) ((Below.refl _ _).alloc (Nat.le_refl _) _))
    have HB4 := Lib.hid (HB.out.trans (((HL3.out.trans hL).below hge hs1).alloc (by have := hL.2.size; omega) (.cells #[.string m4, .slice A4 n4 c4] 37)))
    have hs4 := hL.2.size
    have HK := Lib.hid (HP.out.add (ScrsOk.one HD.out))
    clear hG4 hB4 hP4 hL
    go_wp2_with (refine wpList_append_dat _ rfl _ _ 33 rfl 2 (by omega) 37 i0 _ 40 Tryz.underlying33 hi hz0 hz1 rfl hz2 w1.heap.size A2 n2 c2 L Bs rfl HG4.out _ 1 1 [.r [.s m4, .l L4]] (fun b => (∃ a, A4 = some a ∧ b = a.block) ∨ Bs4 b) rfl (Src.lit rfl O4.out rfl (fun b h => (HA4.out b h).2)) (fun b hb h => by have h1 := (HA3.out b (Or.inr hb)).2; have h2 := (HA4.out b h).1; omega) (fun a e h => by have h1 := (HA3.out a.block (Or.inl ⟨a, e, rfl⟩)).2; have h2 := (HA4.out _ h).1; omega) (by unfold maxLen; omega) (by omega) (by simp; omega) ?_; intro A8 c8 w8 hG8 hT8 hA8; have HF := Lib.hid (DrewLib.of_touch HG4.out hG8 hT8 (HK.out.more (by omega)) HB4.out hs1); clear hG8 hT8 hA8)
    go_ret
    exact HF.out
  | false =>
    go_wp2_with fail
    go_ret
    exact ⟨L, A2, n2, c2, rfl, HG3.out.owns.lies, HP.out.more (by omega), HB.out.trans (HL3.out.below hge hs1)⟩
/-- A script was drawn. -/
def DrewScr (w : World) (e : Ending) (w' : World) : Prop := ∃ (nm : ByteArray) (A : Option Addr) (n c : Nat) (L : List Dat), e = .returned (.agg #[.string nm, .slice A n c]) ∧ Owns w' (.l L) [.slice A n c] (fun b => w.heap.size ≤ b) ∧ nm.size ≤ 8 ∧ MethsOk 6 L ∧ Below w.heap.size w w'
set_option maxRecDepth 100000 in
set_option maxHeartbeats 4000000 in
theorem drawScr (A : Option Addr) (n c : Nat) (w : World) (hC : Code w A n) (hn : n ≤ 1048576) : Calls Tryz.prog 39 #[.slice A n c] w (DrewScr w) := by
  have B0 : Hid (Below w.heap.size w (w.alloc (.cells #[.string ⟨#[]⟩, .slice none 0 0] 37))) := Lib.hid ((Below.refl _ _).alloc (Nat.le_refl _) _)
  have HC := Lib.hid (hC.low6 B0.out)
  have Z := Lib.hid (Zb.new w #[.string ⟨#[]⟩, .slice none 0 0] 37 (Nat.le_refl _))
  clear hC
  go_enter Tryz.func39, Tryz.ntmps39
  go_wp2_with fail
  refine (l1New A n c _ HC.out hn).mono ?_
  rintro e w1 ⟨g, rfl, hcur, hb1⟩
  have hg := hcur.lt
  have hge := hcur.ge
  have hs1 := hb1.size
  rw [World.size_alloc] at hge hs1
  have HB := Lib.hid (B0.out.trans (hb1.mono (by rw [World.size_alloc]; omega)))
  replace Z := Lib.hid (Z.out.below hb1)
  have HNE : Hid (w.heap.size ≠ g) := Lib.hid (by omega)
  have HCUR := Lib.hid hcur
  clear hcur hb1 B0
  go_wp2_with fail
  refine (l6Any _ g _ HCUR.out).mono ?_
  rintro e w2 ⟨nm, A2, n2, c2, L, Bs, rfl, hG, hBs, hP, hL⟩
  have HA := Lib.hid (hG.all hBs)
  have HO := Lib.hid hG.owns
  have hs2 := hL.2.size
  replace HB := Lib.hid (HB.out.trans (hL.2.below (by omega) (by omega)))
  replace Z := Lib.hid (Z.out.turn hL.2 HNE.out)
  have HP := Lib.hid hP
  clear hG hBs hP hL HCUR
  obtain ⟨z0, z1, f0, f1⟩ := Z.out.two
  go_wp2_with fail
  have p := Z.out.2.1.two (.string nm) (.slice A2 n2 c2)
  have p0 := p.2 0 _ rfl
  have p1 := p.2 1 _ rfl
  clear p
  have ht : Touch (fun i => i = w.heap.size) w2 ((w2.setCell ⟨w.heap.size, 0, none⟩ (.string nm)).setCell ⟨w.heap.size, 1, none⟩ (.slice A2 n2 c2)) := ((Touch.refl (fun i => i = w.heap.size) w2).setCell (p := ⟨w.heap.size, 0, none⟩) rfl _).setCell (p := ⟨w.heap.size, 1, none⟩) rfl _
  refine bodyPost_ret (v := .agg #[.string nm, .slice A2 n2 c2]) (by simp [results, Tryz.results39, go_sem, p0, p1]; try rfl) rfl ?_
  exact ⟨nm, A2, n2, c2, L, rfl, (HO.out.touch ht (fun b hb e => by have := (HA.out b hb).1; omega)).mono (fun b hb => by have := (HA.out b hb).1; omega), HP.out.1, HP.out.2, HB.out.trans (ht.below (fun b e => by omega) (by omega))⟩
set_option maxRecDepth 100000 in
set_option maxHeartbeats 4000000 in
theorem drawMadeBy (A : Option Addr) (n c : Nat) (w : World) (hC : Code w A n) (hn : n ≤ 1048576) : Calls Tryz.prog 11 #[.slice A n c] w (DrewScr w) := by
  have B0 : Hid (Below w.heap.size w (w.alloc (.cells #[.string ⟨#[]⟩, .slice none 0 0] 37))) := Lib.hid ((Below.refl _ _).alloc (Nat.le_refl _) _)
  have HC := Lib.hid (hC.low6 B0.out)
  have Z := Lib.hid (Zb.new w #[.string ⟨#[]⟩, .slice none 0 0] 37 (Nat.le_refl _))
  clear hC
  go_enter Tryz.func11, Tryz.ntmps11
  go_wp2_with fail
  refine (drawScr A n c _ HC.out hn).mono ?_
  rintro e w2 ⟨nm, A2, n2, c2, L, rfl, hO, hn8, hP, hb⟩
  have hs2 := hb.size
  rw [World.size_alloc] at hs2 hO
  have HB := Lib.hid (B0.out.trans (hb.mono (by rw [World.size_alloc]; omega)))
  replace Z := Lib.hid (Z.out.below hb)
  have HO := Lib.hid hO
  have HP := Lib.hid hP
  clear hO hP hb B0 HC
  obtain ⟨z0, z1, f0, f1⟩ := Z.out.two
  go_wp2_with fail
  have p := Z.out.2.1.two (.string nm) (.slice A2 n2 c2)
  have p0 := p.2 0 _ rfl
  have p1 := p.2 1 _ rfl
  clear p
  have ht : Touch (fun i => i = w.heap.size) w2 ((w2.setCell ⟨w.heap.size, 0, none⟩ (.string nm)).setCell ⟨w.heap.size, 1, none⟩ (.slice A2 n2 c2)) := ((Touch.refl (fun i => i = w.heap.size) w2).setCell (p := ⟨w.heap.size, 0, none⟩) rfl _).setCell (p := ⟨w.heap.size, 1, none⟩) rfl _
  refine bodyPost_ret (v := .agg #[.string nm, .slice A2 n2 c2]) (by simp [results, Tryz.results11, go_sem, p0, p1]; try rfl) rfl ?_
  exact ⟨nm, A2, n2, c2, L, rfl, (HO.out.touch ht (fun b hb e => by omega)).mono (fun b hb => by omega), hn8, HP.out, HB.out.trans (ht.below (fun b e => by omega) (by omega))⟩
/-- A method was drawn: each instruction but the last one writes a register that there is, or none. -/
def DrewM (w : World) (e : Ending) (w' : World) : Prop := ∃ (nm : ByteArray) (A : Option Addr) (n c : Nat) (L : List Dat), e = .returned (.agg #[.string nm, .slice A n c]) ∧ Lies w' (.l L) [.slice A n c] ∧ nm.size ≤ 8 ∧ CodeOk 12 L ∧ Tame (insL L) ∧ Below w.heap.size w w'
theorem tame_s {L : List Dat} (h : ∀ x ∈ L, SmlD x) (d : Dat) : Tame (insL (L ++ [d])) := by
  intro i x hx hi
  rw [insL_len, List.length_append, List.length_singleton] at hi
  rw [insL, List.map_append, List.getElem?_append_left (by rw [List.length_map]; omega), List.getElem?_map] at hx
  cases hd : L[i]? with
  | none => rw [hd] at hx; cases hx
  | some y =>
    rw [hd] at hx
    obtain rfl : insOf y = x := by simpa using hx
    obtain ⟨op, a, b, c, e, nm, rfl, h7⟩ := h y (List.mem_of_getElem? hd)
    show (if 1 ≤ op ∧ op ≤ 7 then a else -1) ≤ 7
    split <;> omega
theorem tame_all {L : List Dat} (h : ∀ x ∈ L, SmlD x) : Tame (insL L) := by
  intro i x hx hi
  refine tame_s h (.i 0) i x ?_ ?_
  · rw [insL, List.map_append, List.getElem?_append_left (by rw [insL_len] at hi; rw [List.length_map]; omega)]
    exact hx
  · rw [insL_len] at hi ⊢
    rw [List.length_append, List.length_singleton]
    omega
/-- An append at a step of a region, to a slice whose variable is v. -/
theorem step_appM {w4 w5 : World} {Bc g : Nat} {E : TypeId} {k lo v : Nat} {A : Option Addr} {n c : Nat} {L : List Dat} {Bs0 : Nat → Prop}
    {P : Program} {ops : Array Oper} {o : Oper} {a : Act} {K : Act → World → Prop} {Q : Exit → Act → World → Prop} {X : Prop} (hgd : o.guard = none) (s x : Operand) (t : TypeId)
    (ho : o.op = .call { callee := .builtin .append, args := #[s, x], argTypes := #[t, t] }) (hk : 0 < k) (i : TypeInfo) (z : Value) (bytes : Nat) (ht : P.underlying t = some (.slice E)) (hi : P.info? E = some i) (hz : i.zero = some z)
    (hsize : i.size = k) (hzs : z.cells.size = k) (hby : i.bytes = bytes) (hG0 : Grow E k lo w4 A n c L Bs0) (hB0 : ∀ b, Bs0 b → lo ≤ b ∧ b ≠ v) (hA0 : ∀ a, A = some a → a.block ≠ v) (hg : g < lo) (hlo : lo ≤ w4.heap.size) (hvw : v < w4.heap.size) (hL : Left Bc g w4 w5) (ob : Obj) (m c2 : Nat) (L2 : List Dat) (B2 : Nat → Prop)
    (hR : Src k (w5.alloc ob) (some ⟨w5.heap.size, 0, none⟩) m L2 B2) (hB : ∀ b, B2 b → w4.heap.size ≤ b) (hs : a.eval s = .slice A n c) (hx : a.eval x = .slice (some ⟨w5.heap.size, 0, none⟩) m c2) (h1 : n + m ≤ 1000) (h2 : bytes ≤ 1000)
    (h : ∀ A' c' w', (∃ Bs, Grow E k lo w' A' (n + m) c' (L ++ L2) Bs ∧ (∀ b, Bs b → lo ≤ b ∧ b ≠ v) ∧ ∀ a, A' = some a → a.block ≠ v) → Touch (fun b => ∃ a, A = some a ∧ b = a.block) (w5.alloc ob) w' → K (a.put o.dst (.slice A' (n + m) c')) w') : if Region.wanted o (yielded ops a.tmps) = true then Oper.wp P o a (w5.alloc ob) K Q else X := by
  have hGall := hG0.all (fun b hb => (hB0 b hb).1)
  have h5 := hL.2.size
  have hG5 : Grow E k lo (w5.alloc ob) A n c L Bs0 := (hG0.touch (Touch.of_turn hL.2) (fun a e e2 => by have := (hG0.blk a e).1; omega) (fun b hb e2 => by have := (hB0 b hb).1; omega)).below ((Below.refl _ _).alloc (Nat.le_refl _) _)
  have hbytes : (n + m) * bytes ≤ 140737488355328 := Nat.le_trans (Nat.mul_le_mul h1 h2) (by decide)
  refine step_append_dat (w5.alloc ob) hgd s x t ho k hk E i z bytes ht hi hz hsize hzs hby lo A n c L Bs0 hs hG5 _ m c2 L2 B2 hx hR (fun b hb hb2 => ?_) (fun a e hb2 => ?_) (by unfold maxLen; omega) hbytes (by rw [World.size_alloc]; omega) (fun A' c' w' hG hT hA => h A' c' w' ⟨_, hG, fun b hb => ?_, fun a e => ?_⟩ hT)
  · have := (hGall b (Or.inr hb)).2; have := hB b hb2; omega
  · have := (hGall a.block (Or.inl ⟨a, e, rfl⟩)).2; have := hB _ hb2; omega
  · rcases hb with hb | hb
    · exact hB0 b hb
    · have := hB b hb; exact ⟨by omega, by omega⟩
  · rcases hA a e with e2 | e2
    · exact hA0 a e2
    · rw [World.size_alloc] at e2; omega
set_option maxRecDepth 100000 in
set_option maxHeartbeats 8000000 in
theorem drawFU (A : Option Addr) (n c : Nat) (w : World) (hC : Code w A n) (hn : n ≤ 1048576) : Calls Tryz.prog 6 #[.slice A n c] w (DrewM w) := by
  obtain ⟨i0, hi, hz0, hz1, hz2⟩ := info_parts infoInstr
  have B0 : Hid (Below w.heap.size w (w.alloc (.cells #[.string ⟨#[]⟩, .slice none 0 0] 26))) := Lib.hid ((Below.refl _ _).alloc (Nat.le_refl _) _)
  have HC := Lib.hid (hC.low6 B0.out)
  have Z := Lib.hid (Zb.new w #[.string ⟨#[]⟩, .slice none 0 0] 26 (Nat.le_refl _))
  clear hC
  go_enter Tryz.func6, Tryz.ntmps6
  go_wp2_with fail
  refine (l1New A n c _ HC.out hn).mono ?_
  rintro e w1 ⟨g, rfl, hcur, hb1⟩
  have hg := hcur.lt
  have hge := hcur.ge
  have hs1 := hb1.size
  rw [World.size_alloc] at hge hs1
  have HB := Lib.hid (B0.out.trans (hb1.mono (by rw [World.size_alloc]; omega)))
  replace Z := Lib.hid (Z.out.below hb1)
  have HNE : Hid (w.heap.size ≠ g) := Lib.hid (by omega)
  have HCUR := Lib.hid hcur
  clear hcur hb1 B0
  go_wp2_with fail
  refine (l1Once _ g 2 _ (by omega) (by omega) HCUR.out).mono ?_
  rintro e w2 ⟨v, rfl, hL⟩
  have hs2 := hL.2.size
  replace HB := Lib.hid (HB.out.trans (hL.2.below (by omega) (by omega)))
  replace Z := Lib.hid (Z.out.turn hL.2 HNE.out)
  replace HCUR := Lib.hid hL.1
  clear hL HC
  cases v with
  | true =>
    go_wp2_with fail
    refine (l8Safe _ g ⟨#[103, 101, 116]⟩ _ HCUR.out).mono ?_
    rintro e w3 ⟨nm, A3, n3, c3, L, Bs, rfl, hG, hBs, hP, hL⟩
    have HA := Lib.hid (hG.all hBs)
    have HO := Lib.hid hG.owns
    have hs3 := hL.2.size
    replace HB := Lib.hid (HB.out.trans (hL.2.below (by omega) (by omega)))
    replace Z := Lib.hid (Z.out.turn hL.2 HNE.out)
    have HP := Lib.hid hP
    clear hG hBs hP hL HCUR
    obtain ⟨z0, z1, f0, f1⟩ := Z.out.two
    go_wp2_with fail
    have p := Z.out.2.1.two (.string nm) (.slice A3 n3 c3)
    have p0 := p.2 0 _ rfl
    have p1 := p.2 1 _ rfl
    clear p
    have ht : Touch (fun i => i = w.heap.size) (w3) (((w3).setCell ⟨w.heap.size, 0, none⟩ (.string nm)).setCell ⟨w.heap.size, 1, none⟩ (.slice A3 n3 c3)) := ((Touch.refl (fun i => i = w.heap.size) (w3)).setCell (p := ⟨w.heap.size, 0, none⟩) rfl _).setCell (p := ⟨w.heap.size, 1, none⟩) rfl _
    refine bodyPost_ret (v := .agg #[.string nm, .slice A3 n3 c3]) (by simp [results, Tryz.results6, go_sem, p0, p1]; try rfl) rfl ?_
    exact ⟨nm, A3, n3, c3, _, rfl, (HO.out.touch ht (fun b hb e => by have := (HA.out b hb).1; omega)).lies, (by rw [HP.out.1]; decide), HP.out.2.1.more (by omega), tame_all HP.out.2.2, HB.out.trans (ht.below (fun b e => by omega) (by omega))⟩
  | false =>
    go_wp2_with fail
    refine (l6MethodS _ g ⟨#[103, 101, 116]⟩ _ HCUR.out).mono ?_
    rintro e w3 ⟨nm, A3, n3, c3, L, Bs, rfl, hG, hBs, hP, hL⟩
    have hs3 := hL.2.size
    have hn3 : n3 ≤ 7 := by have h1 := hG.owns.lies.count; have := hP.2.1.1; omega
    have HA := Lib.hid (hG.all hBs)
    have ba : Below w3.heap.size w3 (w3.alloc (.cells #[.string nm, .slice A3 n3 c3] 26)) := (Below.refl _ _).alloc (Nat.le_refl _) _
    have V := Lib.hid (Zb.new w3 #[.string nm, .slice A3 n3 c3] 26 (Nat.le_refl _))
    have G := Lib.hid (hG.below ba)
    have HBs : Hid (∀ b, Bs b → w2.heap.size ≤ b ∧ b ≠ w3.heap.size) := Lib.hid (fun b hb => by have := hG.all hBs b (Or.inr hb); omega)
    have HAs : Hid (∀ a, A3 = some a → a.block ≠ w3.heap.size) := Lib.hid (fun a e => by have := (hG.blk a e).2.1; omega)
    replace HB := Lib.hid (HB.out.trans (((hL.2.below (B := w.heap.size) (by omega) (by omega))).trans (ba.mono (by omega))))
    replace Z := Lib.hid ((Z.out.turn hL.2 HNE.out).below ba)
    have HP := Lib.hid hP
    replace HCUR := Lib.hid (hL.1.alloc' (.cells #[.string nm, .slice A3 n3 c3] 26))
    have hg3 := HCUR.out.lt
    have HNV : Hid (w3.heap.size ≠ g) := Lib.hid (by have := hL.1.lt; omega)
    clear hG hBs hP hL ba hg3
    go_wp2_with fail
    refine (l1Once _ g 4 _ (by omega) (by omega) HCUR.out).mono ?_
    rintro e w4 ⟨v, rfl, hL⟩
    have hs4 := hL.2.size
    rw [World.size_alloc] at hs4
    replace HB := Lib.hid (HB.out.trans (hL.2.below (by omega) (by rw [World.size_alloc]; omega)))
    replace Z := Lib.hid (Z.out.turn hL.2 HNE.out)
    replace V := Lib.hid (V.out.turn hL.2 HNV.out)
    replace G := Lib.hid (G.out.touch (Touch.of_turn hL.2) (fun a e e2 => by have := (G.out.blk a e).1; omega) (fun b hb e2 => by have := (HBs.out b hb).1; omega))
    replace HCUR := Lib.hid hL.1
    clear hL
    cases v with
    | false =>
      have HO := Lib.hid G.out.owns
      obtain ⟨y0, y1, y2, y3⟩ := V.out.two
      obtain ⟨z0, z1, f0, f1⟩ := Z.out.two
      clear V G
      go_wp2_with fail
      have p := Z.out.2.1.two (.string nm) (.slice A3 n3 c3)
      have p0 := p.2 0 _ rfl
      have p1 := p.2 1 _ rfl
      clear p
      have ht : Touch (fun i => i = w.heap.size) (w4) (((w4).setCell ⟨w.heap.size, 0, none⟩ (.string nm)).setCell ⟨w.heap.size, 1, none⟩ (.slice A3 n3 c3)) := ((Touch.refl (fun i => i = w.heap.size) (w4)).setCell (p := ⟨w.heap.size, 0, none⟩) rfl _).setCell (p := ⟨w.heap.size, 1, none⟩) rfl _
      refine bodyPost_ret (v := .agg #[.string nm, .slice A3 n3 c3]) (by simp [results, Tryz.results6, go_sem, p0, p1]; try rfl) rfl ?_
      exact ⟨nm, A3, n3, c3, _, rfl, (HO.out.touch ht (fun b hb e => by have := (HA.out b hb).1; omega)).lies, (by rw [HP.out.1]; decide), HP.out.2.1.more (by omega), tame_all HP.out.2.2, HB.out.trans (ht.below (fun b e => by omega) (by omega))⟩
    | true =>
      have bd : Below w4.heap.size w4 w4.drew := (Below.refl _ _).drew
      have VD := Lib.hid (V.out.below bd)
      have ZD := Lib.hid (Z.out.below bd)
      have GD := Lib.hid (G.out.below bd)
      have HCD := Lib.hid (HCUR.out.low bd (by have := HCUR.out.lt; omega))
      obtain ⟨z0, z1, y2, y3⟩ := V.out.two
      replace HB := Lib.hid (HB.out.trans (bd.mono (by omega)))
      clear bd V Z G
      go_wp2_with fail
      go_region_law (first
        | (refine step_appM (v := w3.heap.size) rfl _ _ 24 rfl (by omega) i0 _ 56 Tryz.underlying24 hi hz0 hz1 rfl hz2 GD.out HBs.out HAs.out (by omega) (by show w2.heap.size ≤ w4.heap.size; omega) (by show w3.heap.size < w4.heap.size; omega) HL5.out _ 1 1 [.r [.i op, .i a, .i b, .i cc, .i dd, .s nm5]] (fun _ => False) (Src.lit rfl (ownInstr (Iv := fun _ => False)) rfl (fun b h => h.elim)) (fun b h => h.elim) rfl rfl (by omega) (by omega) ?_; intro A8 c8 w8 hM8 hT8; have M8 := Lib.hid hM8; have hs8 := hT8.size; have V8 := Lib.hid ((V6.out _).touch hT8 (fun ⟨a, e, h⟩ => HAs.out a e h.symm)); have Z8 := Lib.hid ((Z6.out _).touch hT8 (fun ⟨a, e, h⟩ => by have := (HA.out a.block (Or.inl ⟨a, e, rfl⟩)).1; omega)); have HB8 := Lib.hid ((HB5.out.alloc (by omega) _).trans (hT8.below (B := w.heap.size) (fun b ⟨a, e, h⟩ => by have := (HA.out a.block (Or.inl ⟨a, e, rfl⟩)).1; omega) (by rw [World.size_alloc]; omega))); (obtain ⟨z0, z1, f0, f1⟩ := V8.out.two); clear hM8 hT8)
        | (go_simp; go_at_call 27; (with_reducible refine (l5Any _ g _ HCD.out).mono ?_); rintro e w5 ⟨⟨op, a, b, cc, dd, nm5⟩, ⟨hnm, h64⟩, rfl, hL⟩; have HI := Lib.hid (ins_ok h64.1 h64.2.1 h64.2.2.1 h64.2.2.2.1 h64.2.2.2.2 hnm); have V5 := Lib.hid (VD.out.turn hL.2 HNV.out); have Z5 := Lib.hid (ZD.out.turn hL.2 HNE.out); have hs5 : w4.heap.size ≤ w5.heap.size := hL.2.size; have HL5 := Lib.hid hL; have HB5 := Lib.hid (HB.out.trans (hL.2.below (by omega) (by show w.heap.size ≤ w4.heap.size; omega))); have V6 := Lib.hid (fun o => V5.out.below (w' := w5.alloc o) ((Below.refl _ _).alloc (Nat.le_refl _) o)); have Z6 := Lib.hid (fun o => Z5.out.below (w' := w5.alloc o) ((Below.refl _ _).alloc (Nat.le_refl _) o)); have z6 : ∀ o, (w5.alloc o).cell? ⟨w3.heap.size, 1, none⟩ = some (.slice A3 n3 c3) := (fun o => (V6.out o).two.2.1); have z5 := V5.out.two.2.1; clear hL hnm h64))
      all_goals (
        obtain ⟨Bs8, hG8, hB8, hA8⟩ := M8.out
        have HO8 := Lib.hid hG8.owns
        have HA8 := Lib.hid (hG8.all (fun b hb => (hB8 b hb).1))
        have HV8 : Hid (∀ b, ((∃ a, A8 = some a ∧ b = a.block) ∨ Bs8 b) → ¬ b = w3.heap.size) := Lib.hid (fun b hb e => hb.elim (fun ⟨a, e1, h⟩ => hA8 a e1 (by omega)) (fun h => (hB8 b h).2 e))
        have ht8 : Touch (fun i => i = w3.heap.size) w8 (w8.setCell ⟨w3.heap.size, 1, none⟩ (.slice A8 (n3 + 1) c8)) := (Touch.refl (fun i => i = w3.heap.size) w8).setCell (p := ⟨w3.heap.size, 1, none⟩) rfl _
        have HO := Lib.hid (HO8.out.touch ht8 HV8.out)
        have Z := Lib.hid (Z8.out.touch ht8 (by omega))
        have HB9 := Lib.hid (HB8.out.trans (ht8.below (B := w.heap.size) (fun b e => by omega) (by have h9 : (w5.alloc (.cells #[.int .i64 op, .int .i64 a, .int .i64 b, .int .i64 cc, .int .i64 dd, .string nm5] 32)).heap.size = w5.heap.size + 1 := World.size_alloc _ _; omega)))
        have y0 : (w8.setCell ⟨w3.heap.size, 1, none⟩ (.slice A8 (n3 + 1) c8)).cell? ⟨w3.heap.size, 0, none⟩ = some (.string nm) := by rw [World.cell?_setCell_other (h := by intro e; injection e; omega)]; exact z0
        have y1 : (w8.setCell ⟨w3.heap.size, 1, none⟩ (.slice A8 (n3 + 1) c8)).cell? ⟨w3.heap.size, 1, none⟩ = some (.slice A8 (n3 + 1) c8) := World.cell?_setCell_same _ _ _ z1
        have hsz : w.heap.size ≤ (w8.setCell ⟨w3.heap.size, 1, none⟩ (.slice A8 (n3 + 1) c8)).heap.size := HB9.out.size
        have HK := Lib.hid (HP.out.2.1.snoc HI.out)
        clear HA
        have HA := HA8
        clear HA8 M8 hG8 hB8 hA8 z0 z1 f0 f1 z5 z6 V5 V6 V8 Z5 Z6 Z8 HL5 HO8 HB8 HB5
        obtain ⟨z0, z1, f0, f1⟩ := Z.out.two
        go_wp2_with fail
        have p := Z.out.2.1.two (.string nm) (.slice A8 (n3 + 1) c8)
        have p0 := p.2 0 _ rfl
        have p1 := p.2 1 _ rfl
        clear p
        have ht : Touch (fun i => i = w.heap.size) (w8.setCell ⟨w3.heap.size, 1, none⟩ (.slice A8 (n3 + 1) c8)) (((w8.setCell ⟨w3.heap.size, 1, none⟩ (.slice A8 (n3 + 1) c8)).setCell ⟨w.heap.size, 0, none⟩ (.string nm)).setCell ⟨w.heap.size, 1, none⟩ (.slice A8 (n3 + 1) c8)) := ((Touch.refl (fun i => i = w.heap.size) (w8.setCell ⟨w3.heap.size, 1, none⟩ (.slice A8 (n3 + 1) c8))).setCell (p := ⟨w.heap.size, 0, none⟩) rfl _).setCell (p := ⟨w.heap.size, 1, none⟩) rfl _
        refine bodyPost_ret (v := .agg #[.string nm, .slice A8 (n3 + 1) c8]) (by simp [results, Tryz.results6, go_sem, p0, p1]; try rfl) rfl ?_
        exact ⟨nm, A8, (n3 + 1), c8, _, rfl, (HO.out.touch ht (fun b hb e => by have := (HA.out b hb).1; omega)).lies, (by rw [HP.out.1]; decide), HK.out.more (by omega), tame_s HP.out.2.2 _, HB9.out.trans (ht.below (fun b e => by omega) (hsz))⟩)
end Go.Proofs.YtgibhbplgiejpaaGreat
