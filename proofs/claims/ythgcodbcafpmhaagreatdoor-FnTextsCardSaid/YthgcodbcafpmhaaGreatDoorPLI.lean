/- The program's ParseLibrary: a line put behind. -/
import Derived.Test.YthgcodbcafpmhaaGreatDoorLibW
import Derived.Test.YthgcodbcafpmhaaGreatDoorPrsA
import Derived.Test.YthgcodbcafpmhaaGreatDoorShelfJ
import Derived.Deep.RegionLaw
namespace Go.Proofs.YthgcodbcafpmhaaGreatDoor
open Go.RowKit
set_option linter.unusedVariables false
set_option linter.unusedSimpArgs false
def cutB (w : List UInt8) (s : ByteArray) : ByteArray := if isHead w s.data.toList then ⟨(s.data.toList.drop 7).toArray⟩ else s
/-- A cut line comes back, and nothing turns. -/
def GivesC (w : List UInt8) (s : ByteArray) (W : World) (e : Ending) (w' : World) : Prop := e = .returned (.tuple #[.string (cutB w s), .bool (isHead w s.data.toList)]) ∧ W = w'
theorem cut_eq (w : List UInt8) (hw : w.length = 6) (s : ByteArray) : (⟨(Lib.trimPrefix s.data.toList (w ++ [32])).toArray⟩ : ByteArray) = cutB w s := by
  unfold cutB
  cases h : isHead w s.data.toList with
  | true =>
    have h' : Lib.hasPrefix s.data.toList (w ++ [32]) = true := h
    unfold Lib.trimPrefix
    rw [if_pos h', if_pos rfl]
    simp [hw]
  | false =>
    have h' : Lib.hasPrefix s.data.toList (w ++ [32]) = false := h
    unfold Lib.trimPrefix
    rw [if_neg (by rw [h']; decide), if_neg (by decide)]
theorem cutM (s : ByteArray) (W : World) : Calls Tryz.prog 65 #[.string s, .string ⟨#[109, 101, 116, 104, 111, 100, 32]⟩] W (GivesC methodW s W) :=
  (Tryz.strings_CutPrefix s ⟨#[109, 101, 116, 104, 111, 100, 32]⟩ W).mono fun e w' ⟨he, hw⟩ => ⟨by rw [he, ← cut_eq methodW rfl s]; rfl, hw.symm⟩
theorem cutS (s : ByteArray) (W : World) : Calls Tryz.prog 65 #[.string s, .string ⟨#[115, 99, 114, 105, 112, 116, 32]⟩] W (GivesC scriptW s W) :=
  (Tryz.strings_CutPrefix s ⟨#[115, 99, 114, 105, 112, 116, 32]⟩ W).mono fun e w' ⟨he, hw⟩ => ⟨by rw [he, ← cut_eq scriptW rfl s]; rfl, hw.symm⟩
theorem cutB_yes {w : List UInt8} {s : ByteArray} (h : isHead w s.data.toList = true) : cutB w s = ⟨(s.data.toList.drop 7).toArray⟩ := if_pos h
/-- A row of methods comes back. -/
def GivesMet (lo : Nat) (B : Nat → Prop) (ms : List Meth) (w : World) (e : Ending) (w' : World) : Prop := ∃ A n c, e = .returned (.slice A n c) ∧ MetG lo w' A n c ms (more B w w') ∧ Touch B w w'
theorem putM_head {l : List UInt8} {ms : List Meth} (h : isHead methodW l = true) : putM l ms = ms ++ [⟨⟨(l.drop 7).toArray⟩, []⟩] := by rw [putM, if_pos h]
theorem putM_none {l : List UInt8} {ms : List Meth} (h : isHead methodW l = false) (hp : parseI l = none) : putM l ms = ms := by rw [putM, if_neg (by rw [h]; decide), hp]
theorem putM_nil {l : List UInt8} {x : I} (h : isHead methodW l = false) (hp : parseI l = some x) : putM l [] = [] := by rw [putM, if_neg (by rw [h]; decide), hp]; rfl
theorem putM_snoc {l : List UInt8} {x : I} {ms : List Meth} {m : Meth} (h : isHead methodW l = false) (hp : parseI l = some x) : putM l (ms ++ [m]) = ms ++ [⟨m.name, m.code ++ [x]⟩] := by
  rw [putM, if_neg (by rw [h]; decide), hp]
  exact modLast_snoc (codeP x) m ms
theorem GivesMet.same {lo : Nat} {B : Nat → Prop} {ms ms' : List Meth} {w w' : World} {A : Option Addr} {n c : Nat} (h : MetG lo w A n c ms B) (e : ms' = ms) (hb : Below w.heap.size w w') : GivesMet lo B ms' w (.returned (.slice A n c)) w' := by
  subst e
  exact ⟨A, n, c, rfl, (h.below hb).mono (fun b hb => Or.inl hb), Touch.of_below hb⟩
theorem snoc_cases {α : Type} (L : List α) : L = [] ∨ ∃ init x, L = init ++ [x] := by
  rcases List.eq_nil_or_concat L with h | ⟨i, x, h⟩
  · exact Or.inl h
  · exact Or.inr ⟨i, x, by rw [h, List.concat_eq_append]⟩
theorem implPrsS (s : ByteArray) (op a b c d : Int) (nm : ByteArray) (w : World) (hs : s.size ≤ 1099511627776) (hV : Vars w) (h : parseI s.data.toList = some ⟨op, a, b, c, d, nm⟩) :
    Calls Tryz.prog 15 #[.string s] w (fun e w' => e = .returned (.tuple #[.agg #[.int .i64 op, .int .i64 a, .int .i64 b, .int .i64 c, .int .i64 d, .string nm], .bool true]) ∧ Below w.heap.size w w') := by
  have h1 := implPrs s w hs hV
  rw [h] at h1
  exact h1
theorem implPrsN (s : ByteArray) (w : World) (hs : s.size ≤ 1099511627776) (hV : Vars w) (h : parseI s.data.toList = none) :
    Calls Tryz.prog 15 #[.string s] w (fun e w' => e = .returned (.tuple #[.agg #[.int .i64 0, .int .i64 0, .int .i64 0, .int .i64 0, .int .i64 0, .string ⟨#[]⟩], .bool false]) ∧ Below w.heap.size w w') := by
  have h1 := implPrs s w hs hV
  rw [h] at h1
  exact h1
theorem below_da (w : World) (o : Obj) : Below w.heap.size w (w.drew.alloc o) := (show Below w.heap.size w w.drew from (Below.refl _ _).drew).alloc (Nat.le_refl _) o
theorem below_ad (w : World) (o : Obj) : Below w.heap.size w (w.alloc o).drew := (show Below w.heap.size w (w.alloc o) from (Below.refl _ _).alloc (Nat.le_refl _) o).drew
theorem Touch.cell {S : Nat → Prop} {w w' : World} (h : Touch S w w') {p : Addr} (hp : p.block < w.heap.size) (hn : ¬ S p.block) : w'.cell? p = w.cell? p := World.cell?_of_block (h.block p.block hp hn)
theorem Touch.frozen {S : Nat → Prop} {w w' : World} (h : Touch S w w') {p : Addr} (hp : p.block < w.heap.size) (hn : ¬ S p.block) : w'.frozen? p = w.frozen? p := World.frozen?_of_block (h.block p.block hp hn)
/-- What is laid behind an append to the last method's code. -/
theorem put_code {lo n c g k n1 : Nat} {w o w8 : World} {A A8 : Option Addr} {B Bx : Nat → Prop} {init : List Meth} {nm : ByteArray} {code : List I} {x : I} {c8 : Nat} (ho : Below w.heap.size w o) (hBx : ∀ b, Bx b → B b ∧ b ≠ g ∧ b < w.heap.size) (hBg : B g)
    (hput : ∀ (w' : World) (A2 : Option Addr) (n2 c2 : Nat) (code : List I) (Bx' : Nat → Prop), Touch Bx w w' → CodG lo w' A2 n2 c2 code Bx' → (∀ b, Bx' b → Bx b ∨ (w.heap.size ≤ b ∧ b < w'.heap.size)) → MetG lo (w'.setCell ⟨g, k * 2 + 1, none⟩ (.slice A2 n2 c2)) A n c (init ++ [⟨nm, code⟩]) (more B w w'))
    (hG : CodG lo w8 A8 (n1 + 1) c8 (code ++ [x]) (fun b => Bx b ∨ (o.heap.size ≤ b ∧ b < w8.heap.size))) (hT : Touch Bx o w8) :
    GivesMet lo B (init ++ [⟨nm, code ++ [x]⟩]) w (.returned (.slice A n c)) (w8.setCell ⟨g, k * 2 + 1, none⟩ (.slice A8 (n1 + 1) c8)) := by
  have hT' : Touch Bx w w8 := (Touch.of_below ho).trans hT
  refine ⟨A, n, c, rfl, (hput w8 A8 (n1 + 1) c8 _ _ hT' hG (fun b hb => ?_)).mono (fun b hb => ?_), ?_⟩
  · rcases hb with hb | hb
    · exact Or.inl hb
    · exact Or.inr ⟨Nat.le_trans ho.size hb.1, hb.2⟩
  · rcases hb with hb | hb
    · exact Or.inl hb
    · exact Or.inr ⟨hb.1, by simpa [World.setCell] using hb.2⟩
  · exact (hT'.mono (fun b hb => (hBx b hb).1)).setCell (by exact hBg) _
theorem more_trans {B B' : Nat → Prop} {w w1 w2 : World} (h : w.heap.size ≤ w1.heap.size) (h2 : w1.heap.size ≤ w2.heap.size) (hB : ∀ b, B' b → more B w w1 b) : ∀ b, more B' w1 w2 b → more B w w2 b := fun b hb => by
  rcases hb with hb | hb
  · rcases hB b hb with h3 | h3
    · exact Or.inl h3
    · exact Or.inr ⟨h3.1, by omega⟩
  · exact Or.inr ⟨by omega, hb.2⟩
set_option maxRecDepth 100000 in
set_option maxHeartbeats 8000000 in
theorem implPut (ms : List Meth) (A : Option Addr) (n c : Nat) (s : ByteArray) (lo : Nat) (B : Nat → Prop) (w : World) (h : MetG lo w A n c ms B) (hlo : lo ≤ w.heap.size) (hf : FewM 100000 ms) (hs : s.size ≤ 1099511627776) (hV : Vars w) :
    Calls Tryz.prog 66 #[.slice A n c, .string s] w (GivesMet lo B (putM s.data.toList ms) w) := by
  obtain ⟨i0, hi, hz0, hz1, hz2⟩ := info_parts infoMethod
  obtain ⟨j0, hj, hy0, hy1, hy2⟩ := info_parts infoInstr
  have H := Lib.hid h
  have HV := Lib.hid hV
  have hn : n ≤ 100000 := by rw [← h.count]; exact hf.1
  obtain ⟨v, hv⟩ : ∃ v, isHead methodW s.data.toList = v := ⟨_, rfl⟩
  have HH := Lib.hid hv
  clear h hV hv
  cases v with
  | true =>
    have HC := Lib.hid (cutB_yes HH.out)
    have HN := Lib.hid (putM_head (ms := ms) HH.out)
    go_enter Tryz.func66, Tryz.ntmps66
    go_wp2_with fail
    refine (cutM s _).mono ?_
    rintro e w1 ⟨rfl, rfl⟩
    rw [HH.out, HC.out]
    generalize (⟨(s.data.toList.drop 7).toArray⟩ : ByteArray) = nm at *
    go_wp2_with (at_builtin; refine wpList_append_new _ (methE lo) rfl _ _ 42 rfl 81 i0 (.agg #[.string ⟨#[]⟩, .slice none 0 0]) 40 Tryz.underlying42 hi hz0 hz1 rfl hz2 lo A n c ms B rfl (H.out.below ((Below.refl _ _).alloc (Nat.le_refl _) _)) _ 1 ⟨nm, []⟩ [.string nm, .slice none 0 0] rfl ?hrd (newMeth lo nm) ?h63 ?hby ?hlo ?_; (case hrd => exact Rd.litAt _ _ _ _ (by simp)); (case h63 => (unfold maxLen; omega)); (case hby => omega); (case hlo => (simp; omega)); intro A3 c3 w3 hG hT; have HG := Lib.hid hG; have HTT := Lib.hid hT; clear hG hT)
    go_ret
    refine ⟨A3, n + 1, c3, rfl, ?_, ?_⟩
    · rw [HN.out]
      exact (HG.out : MetG lo w3 A3 (n + 1) c3 _ _).mono (fun b hb => by
        rcases hb with hb | hb
        · exact Or.inl hb
        · exact Or.inr ⟨by have h1 := hb.1; rw [World.size_alloc] at h1; omega, hb.2⟩)
    · exact (Touch.of_below ((Below.refl _ _).alloc (Nat.le_refl _) _)).trans HTT.out
  | false =>
    obtain ⟨o, ho⟩ : ∃ o, parseI s.data.toList = o := ⟨_, rfl⟩
    cases o with
    | none =>
      have HN := Lib.hid (putM_none (ms := ms) HH.out ho)
      have HO := Lib.hid ho
      clear ho
      go_enter Tryz.func66, Tryz.ntmps66
      go_wp2_with fail
      refine (cutM s _).mono ?_
      rintro e w1 ⟨rfl, rfl⟩
      rw [HH.out]
      go_wp2_with fail
      refine (implPrsN s _ hs HV.out HO.out).mono ?_
      rintro e w2 ⟨rfl, hb⟩
      have HB := Lib.hid hb
      clear hb
      go_wp2_with fail
      go_ret
      exact GivesMet.same H.out HN.out (HB.out.alloc HB.out.size _)
    | some x =>
      obtain ⟨op, a, b, c', d, nm⟩ := x
      have HO := Lib.hid ho
      rcases snoc_cases ms with rfl | ⟨init, m, rfl⟩
      · obtain rfl : n = 0 := H.out.count.symm
        have HN := Lib.hid (putM_nil HH.out ho)
        clear ho
        go_enter Tryz.func66, Tryz.ntmps66
        go_wp2_with fail
        refine (cutM s _).mono ?_
        rintro e w1 ⟨rfl, rfl⟩
        rw [HH.out]
        go_wp2_with fail
        refine (implPrsS s op a b c' d nm _ hs HV.out HO.out).mono ?_
        rintro e w2 ⟨rfl, hb⟩
        have HB := Lib.hid hb
        clear hb
        go_wp2_with fail
        go_ret
        exact GivesMet.same H.out HN.out (HB.out.alloc HB.out.size _)
      · have HN := Lib.hid (putM_snoc (ms := init) (m := m) HH.out ho)
        have hcnt := H.out.count
        rw [List.length_append, List.length_singleton] at hcnt
        have hmc : m.code.length ≤ 100000 := hf.2 m (by simp)
        clear ho
        go_enter Tryz.func66, Tryz.ntmps66
        go_wp2_with fail
        refine (cutM s _).mono ?_
        rintro e w1 ⟨rfl, rfl⟩
        rw [HH.out]
        go_wp2_with fail
        refine (implPrsS s op a b c' d nm _ hs HV.out HO.out).mono ?_
        rintro e w2 ⟨rfl, hb⟩
        have HB := Lib.hid hb
        have hs2 := hb.size
        have HX := Lib.hid (Box.new w2 #[.int .i64 op, .int .i64 a, .int .i64 b, .int .i64 c', .int .i64 d, .string nm] 32)
        have HB3 := Lib.hid (hb.alloc hb.size (.cells #[.int .i64 op, .int .i64 a, .int .i64 b, .int .i64 c', .int .i64 d, .string nm] 32))
        clear hb
        obtain ⟨g, A1, n1, c1, Bx, rfl, hnn, ⟨hlg, hgw⟩, hC, ⟨q0, q1⟩, hfz, hBx, hput, hBg⟩ := H.out.last
        obtain ⟨k, hk⟩ : ∃ k, init.length = k := ⟨_, rfl⟩
        have HK := Lib.hid hk
        rw [hk] at q0 q1 hput hnn
        subst hnn
        have HC := Lib.hid hC
        have HPUT := Lib.hid hput
        have HBX := Lib.hid hBx
        have hn1 : n1 ≤ 100000 := by rw [← hC.count]; exact hmc
        have KEEP : ∀ W, Below (w2.alloc (.cells #[.int .i64 op, .int .i64 a, .int .i64 b, .int .i64 c', .int .i64 d, .string nm] 32)).heap.size (w2.alloc (.cells #[.int .i64 op, .int .i64 a, .int .i64 b, .int .i64 c', .int .i64 d, .string nm] 32)) W → W.cell? ⟨g, k * 2 + 1, none⟩ = some (.slice A1 n1 c1) ∧ W.cell? ⟨w2.heap.size, 0, none⟩ = some (.int .i64 op) ∧ W.cell? ⟨w2.heap.size, 1, none⟩ = some (.int .i64 a) ∧ W.cell? ⟨w2.heap.size, 2, none⟩ = some (.int .i64 b) ∧ W.cell? ⟨w2.heap.size, 3, none⟩ = some (.int .i64 c') ∧ W.cell? ⟨w2.heap.size, 4, none⟩ = some (.int .i64 d) ∧ W.cell? ⟨w2.heap.size, 5, none⟩ = some (.string nm) := fun W hW =>
          ⟨((HB3.out.trans (hW.mono HB3.out.size)).cell (p := ⟨g, k * 2 + 1, none⟩) hgw).trans q1, (HX.out.below hW).2 0 _ rfl, (HX.out.below hW).2 1 _ rfl, (HX.out.below hW).2 2 _ rfl, (HX.out.below hW).2 3 _ rfl, (HX.out.below hW).2 4 _ rfl, (HX.out.below hW).2 5 _ rfl⟩
        have K0 := Lib.hid (KEEP _ (Below.refl _ _))
        have K1 := Lib.hid (KEEP _ (Below.refl _ _).drew)
        have K2 := Lib.hid (fun o => KEEP _ (below_ad _ o))
        have f1 : ∀ W, Below w.heap.size w W → W.frozen? ⟨g, k * 2 + 1, none⟩ = false := fun W hW => (hW.frozen (p := ⟨g, k * 2 + 1, none⟩) hgw).trans (hfz _)
        have F0 := Lib.hid f1
        have HO6 : Hid (Below w.heap.size w ((w2.alloc (.cells #[.int .i64 op, .int .i64 a, .int .i64 b, .int .i64 c', .int .i64 d, .string nm] 32)).alloc (.cells #[.int .i64 op, .int .i64 a, .int .i64 b, .int .i64 c', .int .i64 d, .string nm] 32)).drew) := Lib.hid (HB3.out.trans ((below_ad _ _).mono HB3.out.size))
        have HO3 : Hid (w.heap.size ≤ ((w2.alloc (.cells #[.int .i64 op, .int .i64 a, .int .i64 b, .int .i64 c', .int .i64 d, .string nm] 32)).alloc (.cells #[.int .i64 op, .int .i64 a, .int .i64 b, .int .i64 c', .int .i64 d, .string nm] 32)).drew.heap.size) := Lib.hid HO6.out.size
        have HO4 : Hid (w2.heap.size < ((w2.alloc (.cells #[.int .i64 op, .int .i64 a, .int .i64 b, .int .i64 c', .int .i64 d, .string nm] 32)).alloc (.cells #[.int .i64 op, .int .i64 a, .int .i64 b, .int .i64 c', .int .i64 d, .string nm] 32)).drew.heap.size) := Lib.hid (by have h1 := (below_ad (w2.alloc (.cells #[.int .i64 op, .int .i64 a, .int .i64 b, .int .i64 c', .int .i64 d, .string nm] 32)) (.cells #[.int .i64 op, .int .i64 a, .int .i64 b, .int .i64 c', .int .i64 d, .string nm] 32)).size; rw [World.size_alloc] at h1; omega)
        have HO5 : Hid (¬ w2.heap.size < w.heap.size) := Lib.hid (by omega)
        clear hC hput hBx hcnt KEEP q0 q1 hfz hk f1
        have z0 : ((k : Int) + 1 - 1) = k := by omega
        have z1 : (0 : Int) ≤ k := by omega
        have z2 : (k : Int) < k + 1 := by omega
        obtain ⟨-, y0, y1, y2, y3, y4, y5⟩ := K0.out
        go_wp2_with fail
        clear y0 y1 y2 y3 y4 y5
        obtain ⟨x0, x1, x2, x3, x4, x5, x6⟩ := K1.out
        have X := K2.out (.cells #[.int .i64 op, .int .i64 a, .int .i64 b, .int .i64 c', .int .i64 d, .string nm] 32)
        obtain ⟨y0, y1, y2, y3, y4, y5, y6⟩ := X
        go_region_law (
          ((refine step_append_new _ insE rfl _ _ 79 rfl 32 j0 _ 56 Tryz.underlying79 hj hy0 hy1 rfl hy2 lo A1 n1 c1 m.code Bx rfl (HC.out.below (HB3.out.trans ((below_ad _ _).mono HB3.out.size))) _ 1 ⟨op, a, b, c', d, nm⟩ [.int .i64 op, .int .i64 a, .int .i64 b, .int .i64 c', .int .i64 d, .string nm] rfl (Rd.litAt _ _ _ _ (by simp)) (newIns _) (by unfold maxLen; omega) (by omega) (by first | (simp; done) | (simp; omega)) ?_; intro A8 c8 w8 hG hT; (have k8 := (hT.cell (p := ⟨g, k * 2 + 1, none⟩) (Nat.lt_of_lt_of_le hgw HO3.out) (fun hb => (HBX.out _ hb).2.1 rfl)).trans (K2.out _).1); (have f8 := (hT.frozen (p := ⟨g, k * 2 + 1, none⟩) (Nat.lt_of_lt_of_le hgw HO3.out) (fun hb => (HBX.out _ hb).2.1 rfl)).trans (F0.out _ HO6.out)); (have HF := Lib.hid (put_code (nm := m.name) (code := m.code) (x := ⟨op, a, b, c', d, nm⟩) (k := k) (n1 := n1) (c8 := c8) HO6.out HBX.out hBg HPUT.out hG hT)); clear hG hT)))
        all_goals (
          go_wp2_with fail
          go_ret
          rw [HN.out]
          exact HF.out)
end Go.Proofs.YthgcodbcafpmhaaGreatDoor
