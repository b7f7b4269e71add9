/- The reference's ParseLibrary: a line read. -/
import Derived.Test.YtgibhbplgiejpaaGreatPLI
import Derived.Test.YtgibhbplgiejpaaGreatPrsS
import Derived.IntWalk
namespace Go.Proofs.YtgibhbplgiejpaaGreat
open Go.RowKit
set_option linter.unusedVariables false
set_option linter.unusedSimpArgs false
def GivesAdd (lo : Nat) (B : Nat → Prop) (o : Option (List Scr)) (w : World) (e : Ending) (w' : World) : Prop :=
  ∃ A n c, e = .returned (.tuple #[.slice A n c, .bool o.isSome]) ∧ Touch B w w' ∧ ∀ L, o = some L → LibG lo w' A n c L (more B w w')
theorem first7 (s : ByteArray) : (s.extract 0 7).data.toList = s.data.toList.take 7 := by
  rw [ByteArray.data_extract, Array.toList_extract, List.extract_eq_take_drop]
  rfl
theorem seven_is {s : ByteArray} {l : List UInt8} (h : s.data.toList.take 7 = l) : s.extract 0 7 = ⟨l.toArray⟩ := bytes_eq (by rw [first7, h])
theorem seven_not {s : ByteArray} {l : List UInt8} (h : s.data.toList.take 7 ≠ l) : ¬ s.extract 0 7 = ⟨l.toArray⟩ := fun e => h (by rw [← first7, e])
theorem rest7 (s : ByteArray) : s.extract 7 s.size = ⟨(s.data.toList.drop 7).toArray⟩ := bytes_eq (by
  rw [ByteArray.data_extract, Array.toList_extract, List.extract_eq_take_drop]
  exact List.take_of_length_le (by rw [List.length_drop]; exact Nat.le_refl _))
set_option maxRecDepth 100000 in
set_option maxHeartbeats 8000000 in
theorem specAdd1 (L : List Scr) (A : Option Addr) (n c : Nat) (s : ByteArray) (lo : Nat) (B : Nat → Prop) (w : World) (h : LibG lo w A n c L B) (hlo : lo ≤ w.heap.size) (hf : Few 100000 L) (hs : s.size ≤ 1099511627776) (h7 : 7 < s.size) (ht : s.data.toList.take 7 = scriptW ++ [32]) :
    Calls Tryz.prog 97 #[.slice A n c, .string s] w (GivesAdd lo B (some (L ++ [⟨⟨(s.data.toList.drop 7).toArray⟩, []⟩])) w) := by
  obtain ⟨i0, hi, hz0, hz1, hz2⟩ := info_parts infoScript
  have H := Lib.hid h
  have hn : n ≤ 100000 := by rw [← h.count]; exact hf.1
  have hq : s.extract 0 7 = ⟨#[115, 99, 114, 105, 112, 116, 32]⟩ := seven_is ht
  have hr := rest7 s
  have e7 : decide ((7 : Int) < (s.size : Int)) = true := by simp; omega
  clear h ht
  generalize (⟨(s.data.toList.drop 7).toArray⟩ : ByteArray) = nm at *
  go_enter Tryz.func97, Tryz.ntmps97
  go_wp2_with (at_builtin; refine wpList_append_new _ (scrE lo) rfl _ _ 33 rfl 37 i0 (.agg #[.string ⟨#[]⟩, .slice none 0 0]) 40 Tryz.underlying33 hi hz0 hz1 rfl hz2 lo A n c L B rfl (H.out.below ((Below.refl _ _).alloc (Nat.le_refl _) _)) _ 1 ⟨nm, []⟩ [.string nm, .slice none 0 0] rfl ?hrd (newScr lo nm) ?h63 ?hby ?hlo ?_; (case hrd => exact Rd.litAt _ _ _ _ (by simp)); (case h63 => (unfold maxLen; omega)); (case hby => omega); (case hlo => (simp; omega)); intro A3 c3 w3 hG hT; have HG : Hid (LibG lo w3 A3 (n + 1) c3 (L ++ [⟨nm, []⟩]) (more B w w3)) := Lib.hid (LibG.mono hG (fun b hb => by rcases hb with hb | hb; exact Or.inl hb; exact Or.inr ⟨by have h1 := hb.1; rw [World.size_alloc] at h1; omega, hb.2⟩)); have HT := Lib.hid ((Touch.of_below ((Below.refl _ _).alloc (Nat.le_refl _) _)).trans hT); clear hG hT)
  go_ret2
  exact ⟨A3, n + 1, c3, rfl, HT.out, fun L' e => by cases e; exact HG.out⟩
/-- What is laid behind an append to the last script's methods. -/
theorem put_meth {lo n c g k n1 : Nat} {w o w8 : World} {A A8 : Option Addr} {B Bx : Nat → Prop} {init : List Scr} {nm : ByteArray} {ms : List Meth} {c8 : Nat} (ho : Below w.heap.size w o) (hBx : ∀ b, Bx b → B b ∧ b ≠ g ∧ b < w.heap.size) (hBg : B g)
    (hput : ∀ (w' : World) (A2 : Option Addr) (n2 c2 : Nat) (ms : List Meth) (Bx' : Nat → Prop), Touch Bx w w' → MetG lo w' A2 n2 c2 ms Bx' → (∀ b, Bx' b → Bx b ∨ (w.heap.size ≤ b ∧ b < w'.heap.size)) → LibG lo (w'.setCell ⟨g, k * 2 + 1, none⟩ (.slice A2 n2 c2)) A n c (init ++ [⟨nm, ms⟩]) (more B w w'))
    (hG : MetG lo w8 A8 (n1 + 1) c8 ms (fun b => Bx b ∨ (o.heap.size ≤ b ∧ b < w8.heap.size))) (hT : Touch Bx o w8) :
    GivesAdd lo B (some (init ++ [⟨nm, ms⟩])) w (.returned (.tuple #[.slice A n c, .bool true])) (w8.setCell ⟨g, k * 2 + 1, none⟩ (.slice A8 (n1 + 1) c8)) := by
  have hT' : Touch Bx w w8 := (Touch.of_below ho).trans hT
  refine ⟨A, n, c, rfl, (hT'.mono (fun b hb => (hBx b hb).1)).setCell (by exact hBg) _, fun L' e => ?_⟩
  cases e
  refine (hput w8 A8 (n1 + 1) c8 _ _ hT' hG (fun b hb => ?_)).mono (fun b hb => ?_)
  · rcases hb with hb | hb
    · exact Or.inl hb
    · exact Or.inr ⟨Nat.le_trans ho.size hb.1, hb.2⟩
  · rcases hb with hb | hb
    · exact Or.inl hb
    · exact Or.inr ⟨hb.1, by simpa [World.setCell] using hb.2⟩
set_option maxRecDepth 100000 in
set_option maxHeartbeats 8000000 in
theorem specAdd2 (init : List Scr) (sc : Scr) (A : Option Addr) (n c : Nat) (s : ByteArray) (lo : Nat) (B : Nat → Prop) (w : World) (h : LibG lo w A n c (init ++ [sc]) B) (hlo : lo ≤ w.heap.size) (hf : Few 100000 (init ++ [sc])) (hs : s.size ≤ 1099511627776) (h7 : 7 < s.size) (ht : s.data.toList.take 7 = methodW ++ [32]) :
    Calls Tryz.prog 97 #[.slice A n c, .string s] w (GivesAdd lo B (some (init ++ [⟨sc.name, sc.ms ++ [⟨⟨(s.data.toList.drop 7).toArray⟩, []⟩]⟩])) w) := by
  obtain ⟨i0, hi, hz0, hz1, hz2⟩ := info_parts infoMethod
  have hn : n ≤ 100000 := by rw [← h.count]; exact hf.1
  have hmc : sc.ms.length ≤ 100000 := (hf.2 sc (by simp)).1
  have hq : s.extract 0 7 = ⟨#[109, 101, 116, 104, 111, 100, 32]⟩ := seven_is ht
  have hr := rest7 s
  have e7 : decide ((7 : Int) < (s.size : Int)) = true := by simp; omega
  generalize (⟨(s.data.toList.drop 7).toArray⟩ : ByteArray) = nm at *
  obtain ⟨g, A1, n1, c1, Bx, rfl, hnn, ⟨hlg, hgw⟩, hM, ⟨q0, q1⟩, hfz, hBx, -, hput, hBg⟩ := h.last
  obtain ⟨k, hk⟩ : ∃ k, init.length = k := ⟨_, rfl⟩
  rw [hk] at q0 q1 hput hnn
  subst hnn
  have HM := Lib.hid hM
  have HPUT := Lib.hid hput
  have HBX := Lib.hid hBx
  have hn1 : n1 ≤ 100000 := by rw [← hM.count]; exact hmc
  have KEEP : ∀ W, Below w.heap.size w W → W.cell? ⟨g, k * 2 + 1, none⟩ = some (.slice A1 n1 c1) := fun W hW => (hW.cell (p := ⟨g, k * 2 + 1, none⟩) hgw).trans q1
  have x1 := KEEP _ (Below.refl _ _).drew
  have K2 := Lib.hid (fun o => KEEP _ (below_ad w o))
  have y1 := K2.out (.cells #[.string nm, .slice none 0 0] 26)
  have F0 : Hid (∀ W, Below w.heap.size w W → W.frozen? ⟨g, k * 2 + 1, none⟩ = false) := Lib.hid (fun W hW => (hW.frozen (p := ⟨g, k * 2 + 1, none⟩) hgw).trans (hfz _))
  have HO6 : Hid (Below w.heap.size w (w.alloc (.cells #[.string nm, .slice none 0 0] 26)).drew) := Lib.hid (below_ad w _)
  have HO3 : Hid (w.heap.size ≤ (w.alloc (.cells #[.string nm, .slice none 0 0] 26)).drew.heap.size) := Lib.hid HO6.out.size
  have z0 : ((k : Int) + 1 - 1) = k := by omega
  have z1 : (0 : Int) ≤ k := by omega
  have z2 : (k : Int) < k + 1 := by omega
  have hmx : n1 + 1 ≤ maxLen := by unfold maxLen; omega
  have hmy : (n1 + 1) * 40 ≤ 140737488355328 := by omega
  have kw : k ≤ 100000 := by omega
  clear hM hput hBx hfz hk q0 KEEP h ht
  go_enter Tryz.func97, Tryz.ntmps97
  go_wp2_with fail
  have zw : IntKind.i64.wrap (k : Int) = k := IntWalk.i64_in _ (by omega)
  have e70 : (7 : Int) ≤ (s.size : Int) := by omega
  go_region_law (
    (refine step_append_new _ (methE lo) rfl _ _ 35 rfl 26 i0 _ 40 Tryz.underlying35 hi hz0 hz1 rfl hz2 lo A1 n1 c1 sc.ms Bx rfl (HM.out.below (below_ad _ _)) _ 1 ⟨nm, []⟩ [.string nm, .slice none 0 0] rfl (Rd.litAt _ _ _ _ (by simp)) (newMeth lo nm) hmx hmy (Nat.le_trans hlo HO3.out) ?_; intro A8 c8 w8 hG hT; (have k8 := (hT.cell (p := ⟨g, k * 2 + 1, none⟩) (Nat.lt_of_lt_of_le hgw HO3.out) (fun hb => (HBX.out _ hb).2.1 rfl)).trans (K2.out _)); (have f8 := (hT.frozen (p := ⟨g, k * 2 + 1, none⟩) (Nat.lt_of_lt_of_le hgw HO3.out) (fun hb => (HBX.out _ hb).2.1 rfl)).trans (F0.out _ HO6.out)); (have HF := Lib.hid (put_meth (nm := sc.name) (ms := sc.ms ++ ([⟨nm, []⟩] : List Meth)) (k := k) (n1 := n1) (c8 := c8) HO6.out HBX.out hBg HPUT.out hG hT)); clear hG hT))
  all_goals (
    go_wp2_with fail
    go_ret2
    exact HF.out)
/-- An instruction read (third branch). -/
theorem specPrs (s : ByteArray) (w : World) (hs : s.size ≤ 1099511627776) : Calls Tryz.prog 110 #[.string s] w (GivesPI (parseI s.data.toList) w) := by
  have hl : ∀ x ∈ splitB 32 s.data.toList, x.length ≤ 140737488351232 := fun x hx => by
    have h1 := split_each 32 s.data.toList x hx
    have e : s.data.toList.length = s.size := rfl
    omega
  obtain ⟨op, hop⟩ : ∃ op, opW ((splitB 32 s.data.toList).headD []) = op := ⟨_, rfl⟩
  by_cases h4 : op = 4
  · subst h4; exact specPrs4 s w hs (Lib.hid hop) hl _ (Lib.hid rfl)
  · by_cases h10 : op = 10
    · subst h10; exact specPrs10 s w hs (Lib.hid hop) hl _ (Lib.hid rfl)
    · by_cases h5 : op = 5
      · subst h5; exact specPrs5 s w hs (Lib.hid hop) hl _ (Lib.hid rfl) _ (Lib.hid rfl) _ (Lib.hid rfl)
      · by_cases h6 : op = 6
        · subst h6; exact specPrs6 s w hs (Lib.hid hop) hl _ (Lib.hid rfl) _ (Lib.hid rfl) _ (Lib.hid rfl) _ (Lib.hid rfl) _ (Lib.hid rfl) (strW_size hl 3)
        · by_cases h7 : op = 7
          · subst h7; exact specPrs7 s w hs (Lib.hid hop) hl _ (Lib.hid rfl) _ (Lib.hid rfl) _ (Lib.hid rfl) _ (Lib.hid rfl) (strW_size hl 2)
          · exact specPrs0 s op ⟨by omega, h5, h6, h7⟩ w hs (Lib.hid hop) hl _ (Lib.hid rfl) _ (Lib.hid rfl)
theorem seven_nl {s : ByteArray} {l : List UInt8} (h : s.data.toList.take 7 ≠ l) : ((s.extract 0 7).toList == l) = false := by
  rw [ByteArray.toList_eq, first7]
  simpa using h
theorem specPrsS (s : ByteArray) (op a b c d : Int) (nm : ByteArray) (w : World) (hs : s.size ≤ 1099511627776) (h : parseI s.data.toList = some ⟨op, a, b, c, d, nm⟩) :
    Calls Tryz.prog 110 #[.string s] w (fun e w' => e = .returned (.tuple #[.agg #[.int .i64 op, .int .i64 a, .int .i64 b, .int .i64 c, .int .i64 d, .string nm], .bool true]) ∧ Below w.heap.size w w') := by
  have h1 := specPrs s w hs
  rw [h] at h1
  exact h1
theorem specPrsN (s : ByteArray) (w : World) (hs : s.size ≤ 1099511627776) (h : parseI s.data.toList = none) :
    Calls Tryz.prog 110 #[.string s] w (fun e w' => e = .returned (.tuple #[.agg #[.int .i64 0, .int .i64 0, .int .i64 0, .int .i64 0, .int .i64 0, .string ⟨#[]⟩], .bool false]) ∧ Below w.heap.size w w') := by
  have h1 := specPrs s w hs
  rw [h] at h1
  exact h1
theorem GivesAdd.none_ {lo : Nat} {B : Nat → Prop} {w w' : World} {A : Option Addr} {n c : Nat} (hb : Below w.heap.size w w') : GivesAdd lo B none w (.returned (.tuple #[.slice A n c, .bool false])) w' := ⟨A, n, c, rfl, Touch.of_below hb, fun _ e => by cases e⟩
/-- What is laid behind an append to the last method's code. -/
theorem put_ins {lo n c g2 k2 n1 n2 c1 : Nat} {w o w8 : World} {A A1 A8 : Option Addr} {B Bx Bx2 : Nat → Prop} {init : List Scr} {mi : List Meth} {snm mnm : ByteArray} {code : List I} {c8 : Nat} (ho : Below w.heap.size w o) (hBx : ∀ b, Bx b → B b) (hBx2 : ∀ b, Bx2 b → Bx b ∧ b ≠ g2 ∧ b < w.heap.size) (hBg : Bx g2)
    (hput : ∀ (w' : World) (ms : List Meth) (Bx' : Nat → Prop), Touch Bx w w' → MetG lo w' A1 n1 c1 ms Bx' → (∀ b, Bx' b → Bx b ∨ (w.heap.size ≤ b ∧ b < w'.heap.size)) → LibG lo w' A n c (init ++ [⟨snm, ms⟩]) (more B w w'))
    (hput2 : ∀ (w' : World) (A2 : Option Addr) (n2 c2 : Nat) (code : List I) (Bx' : Nat → Prop), Touch Bx2 w w' → CodG lo w' A2 n2 c2 code Bx' → (∀ b, Bx' b → Bx2 b ∨ (w.heap.size ≤ b ∧ b < w'.heap.size)) → MetG lo (w'.setCell ⟨g2, k2 * 2 + 1, none⟩ (.slice A2 n2 c2)) A1 n1 c1 (mi ++ [⟨mnm, code⟩]) (more Bx w w'))
    (hG : CodG lo w8 A8 (n2 + 1) c8 code (fun b => Bx2 b ∨ (o.heap.size ≤ b ∧ b < w8.heap.size))) (hT : Touch Bx2 o w8) :
    GivesAdd lo B (some (init ++ [⟨snm, mi ++ [⟨mnm, code⟩]⟩])) w (.returned (.tuple #[.slice A n c, .bool true])) (w8.setCell ⟨g2, k2 * 2 + 1, none⟩ (.slice A8 (n2 + 1) c8)) := by
  have hT' : Touch Bx2 w w8 := (Touch.of_below ho).trans hT
  have hM := hput2 w8 A8 (n2 + 1) c8 code _ hT' hG (fun b hb => by
    rcases hb with hb | hb
    · exact Or.inl hb
    · exact Or.inr ⟨Nat.le_trans ho.size hb.1, hb.2⟩)
  have hT2 := (hT'.mono (fun b hb => (hBx2 b hb).1)).setCell (p := ⟨g2, k2 * 2 + 1, none⟩) (by exact hBg) (.slice A8 (n2 + 1) c8)
  have hL := hput _ _ _ hT2 hM (fun b hb => by
    rcases hb with hb | hb
    · exact Or.inl hb
    · exact Or.inr ⟨hb.1, by simpa [World.setCell] using hb.2⟩)
  refine ⟨A, n, c, rfl, hT2.mono hBx, fun L' e => ?_⟩
  cases e
  exact hL
set_option maxRecDepth 100000 in
set_option maxHeartbeats 8000000 in
theorem specAdd0 (A : Option Addr) (c : Nat) (s : ByteArray) (lo : Nat) (B : Nat → Prop) (w : World) (hs : s.size ≤ 1099511627776) (h1 : ¬ (7 < s.size ∧ s.data.toList.take 7 = scriptW ++ [32])) :
    Calls Tryz.prog 97 #[.slice A 0 c, .string s] w (GivesAdd lo B none w) := by
  rcases Nat.lt_or_ge 7 s.size with h7 | h7
  · have hq1 := seven_nl (l := [115, 99, 114, 105, 112, 116, 32]) (fun e => h1 ⟨h7, e⟩)
    have e70 : (7 : Int) ≤ (s.size : Int) := by omega
    have e7 : decide ((7 : Int) < (s.size : Int)) = true := by simp; omega
    clear h1 h7
    go_enter Tryz.func97, Tryz.ntmps97
    go_wp2_with fail
    cases ho : parseI s.data.toList with
    | none =>
      refine (specPrsN s _ hs ho).mono ?_
      rintro e w2 ⟨rfl, hb⟩
      go_wp2_with fail
      go_ret2
      exact GivesAdd.none_ (hb.alloc hb.size _)
    | some x =>
      obtain ⟨op, a, b, c', d, nm⟩ := x
      refine (specPrsS s op a b c' d nm _ hs ho).mono ?_
      rintro e w2 ⟨rfl, hb⟩
      go_wp2_with fail
      go_ret2
      exact GivesAdd.none_ (hb.alloc hb.size _)
  · have e7 : decide ((7 : Int) < (s.size : Int)) = false := by simp; omega
    clear h1 h7
    go_enter Tryz.func97, Tryz.ntmps97
    go_wp2_with fail
    cases ho : parseI s.data.toList with
    | none =>
      refine (specPrsN s _ hs ho).mono ?_
      rintro e w2 ⟨rfl, hb⟩
      go_wp2_with fail
      go_ret2
      exact GivesAdd.none_ (hb.alloc hb.size _)
    | some x =>
      obtain ⟨op, a, b, c', d, nm⟩ := x
      refine (specPrsS s op a b c' d nm _ hs ho).mono ?_
      rintro e w2 ⟨rfl, hb⟩
      go_wp2_with fail
      go_ret2
      exact GivesAdd.none_ (hb.alloc hb.size _)
set_option maxRecDepth 100000 in
set_option maxHeartbeats 8000000 in
theorem specAddN (A : Option Addr) (k c : Nat) (s : ByteArray) (lo : Nat) (B : Nat → Prop) (w : World) (hk : k ≤ 100000) (hs : s.size ≤ 1099511627776) (h1 : ¬ (7 < s.size ∧ s.data.toList.take 7 = scriptW ++ [32])) (h2 : ¬ (7 < s.size ∧ s.data.toList.take 7 = methodW ++ [32])) (ho : parseI s.data.toList = none) :
    Calls Tryz.prog 97 #[.slice A (k + 1) c, .string s] w (GivesAdd lo B none w) := by
  rcases Nat.lt_or_ge 7 s.size with h7 | h7
  · have hq1 := seven_nl (l := [115, 99, 114, 105, 112, 116, 32]) (fun e => h1 ⟨h7, e⟩)
    have hq2 := seven_nl (l := [109, 101, 116, 104, 111, 100, 32]) (fun e => h2 ⟨h7, e⟩)
    have e70 : (7 : Int) ≤ (s.size : Int) := by omega
    have e7 : decide ((7 : Int) < (s.size : Int)) = true := by simp; omega
    clear h1 h7 h2
    go_enter Tryz.func97, Tryz.ntmps97
    go_wp2_with fail
    refine (specPrsN s _ hs ho).mono ?_
    rintro e w2 ⟨rfl, hb⟩
    go_wp2_with fail
    go_ret2
    exact GivesAdd.none_ (hb.alloc hb.size _)
  · have e7 : decide ((7 : Int) < (s.size : Int)) = false := by simp; omega
    clear h1 h7 h2
    go_enter Tryz.func97, Tryz.ntmps97
    go_wp2_with fail
    refine (specPrsN s _ hs ho).mono ?_
    rintro e w2 ⟨rfl, hb⟩
    go_wp2_with fail
    go_ret2
    exact GivesAdd.none_ (hb.alloc hb.size _)
set_option maxRecDepth 100000 in
set_option maxHeartbeats 8000000 in
theorem specAddE (init : List Scr) (snm : ByteArray) (A : Option Addr) (n c : Nat) (s : ByteArray) (lo : Nat) (B : Nat → Prop) (w : World) (h : LibG lo w A n c (init ++ [⟨snm, []⟩]) B) (hf : Few 100000 (init ++ [⟨snm, []⟩])) (hs : s.size ≤ 1099511627776) (h1 : ¬ (7 < s.size ∧ s.data.toList.take 7 = scriptW ++ [32])) (h2 : ¬ (7 < s.size ∧ s.data.toList.take 7 = methodW ++ [32])) (op a b c' d : Int) (nm : ByteArray) (ho : parseI s.data.toList = some ⟨op, a, b, c', d, nm⟩) :
    Calls Tryz.prog 97 #[.slice A n c, .string s] w (GivesAdd lo B none w) := by
  have hn : n ≤ 100000 := by rw [← h.count]; exact hf.1
  obtain ⟨g, A1, n1, c1, Bx, rfl, hnn, ⟨hlg, hgw⟩, hM, ⟨q0, q1⟩, hfz, hBx, -, hput, hBg⟩ := h.last
  obtain ⟨k, hk⟩ : ∃ k, init.length = k := ⟨_, rfl⟩
  rw [hk] at q1 hnn
  subst hnn
  obtain rfl : n1 = 0 := hM.count.symm
  have KEEP : Hid (∀ W, Below w.heap.size w W → W.cell? ⟨g, k * 2 + 1, none⟩ = some (.slice A1 0 c1)) := Lib.hid (fun W hW => (hW.cell (p := ⟨g, k * 2 + 1, none⟩) hgw).trans q1)
  have z0 : ((k : Int) + 1 - 1) = k := by omega
  have z1 : (0 : Int) ≤ k := by omega
  have z2 : (k : Int) < k + 1 := by omega
  clear hM hput hBx hfz hk q0 q1 h hf
  rcases Nat.lt_or_ge 7 s.size with h7 | h7
  · have hq1 := seven_nl (l := [115, 99, 114, 105, 112, 116, 32]) (fun e => h1 ⟨h7, e⟩)
    have hq2 := seven_nl (l := [109, 101, 116, 104, 111, 100, 32]) (fun e => h2 ⟨h7, e⟩)
    have e70 : (7 : Int) ≤ (s.size : Int) := by omega
    have e7 : decide ((7 : Int) < (s.size : Int)) = true := by simp; omega
    clear h1 h7 h2
    go_enter Tryz.func97, Tryz.ntmps97
    go_wp2_with fail
    refine (specPrsS s op a b c' d nm _ hs ho).mono ?_
    rintro e w2 ⟨rfl, hb⟩
    have HB := Lib.hid hb
    have y1 := KEEP.out _ (hb.alloc hb.size (.cells #[.int .i64 op, .int .i64 a, .int .i64 b, .int .i64 c', .int .i64 d, .string nm] 32))
    clear hb
    go_wp2_with fail
    go_ret2
    exact GivesAdd.none_ (HB.out.alloc HB.out.size _)
  · have e7 : decide ((7 : Int) < (s.size : Int)) = false := by simp; omega
    clear h1 h7 h2
    go_enter Tryz.func97, Tryz.ntmps97
    go_wp2_with fail
    refine (specPrsS s op a b c' d nm _ hs ho).mono ?_
    rintro e w2 ⟨rfl, hb⟩
    have HB := Lib.hid hb
    have y1 := KEEP.out _ (hb.alloc hb.size (.cells #[.int .i64 op, .int .i64 a, .int .i64 b, .int .i64 c', .int .i64 d, .string nm] 32))
    clear hb
    go_wp2_with fail
    go_ret2
    exact GivesAdd.none_ (HB.out.alloc HB.out.size _)
set_option maxRecDepth 100000 in
set_option maxHeartbeats 8000000 in
theorem specAdd3 (init : List Scr) (snm : ByteArray) (mi : List Meth) (mnm : ByteArray) (code : List I) (A : Option Addr) (n c : Nat) (s : ByteArray) (lo : Nat) (B : Nat → Prop) (w : World) (h : LibG lo w A n c (init ++ [⟨snm, mi ++ [⟨mnm, code⟩]⟩]) B) (hlo : lo ≤ w.heap.size) (hf : Few 100000 (init ++ [⟨snm, mi ++ [⟨mnm, code⟩]⟩])) (hs : s.size ≤ 1099511627776) (h1 : ¬ (7 < s.size ∧ s.data.toList.take 7 = scriptW ++ [32])) (h2 : ¬ (7 < s.size ∧ s.data.toList.take 7 = methodW ++ [32])) (op a b c' d : Int) (nm : ByteArray) (ho : parseI s.data.toList = some ⟨op, a, b, c', d, nm⟩) :
    Calls Tryz.prog 97 #[.slice A n c, .string s] w (GivesAdd lo B (some (init ++ [⟨snm, mi ++ [⟨mnm, code ++ [⟨op, a, b, c', d, nm⟩]⟩]⟩])) w) := by
  obtain ⟨j0, hj, hy0, hy1, hy2⟩ := info_parts infoInstr
  have hn : n ≤ 100000 := by rw [← h.count]; exact hf.1
  have hf2 := (hf.2 _ (List.mem_append_right init (List.mem_singleton_self _)))
  have hmc : (mi ++ [(⟨mnm, code⟩ : Meth)]).length ≤ 100000 := hf2.1
  have hcc : code.length ≤ 100000 := hf2.2 ⟨mnm, code⟩ (List.mem_append_right mi (List.mem_singleton_self _))
  clear hf hf2
  obtain ⟨g, A1, n1, c1, Bx, rfl, hnn, ⟨hlg, hgw⟩, hM, ⟨q0, q1⟩, hfz, hBx, hput, -, hBg⟩ := h.last
  obtain ⟨k, hk⟩ : ∃ k, init.length = k := ⟨_, rfl⟩
  rw [hk] at q1 hnn
  subst hnn
  have hn1 : n1 ≤ 100000 := by rw [← hM.count]; exact hmc
  obtain ⟨g2, A2, n2, c2, Bx2, rfl, hnn2, ⟨hlg2, hgw2⟩, hC, ⟨q2, q3⟩, hfz2, hBx2, hput2, hBg2⟩ := MetG.last hM
  obtain ⟨k2, hk2⟩ : ∃ k, mi.length = k := ⟨_, rfl⟩
  rw [hk2] at q3 hnn2 hput2
  subst hnn2
  have hn2 : n2 ≤ 100000 := by rw [← hC.count]; exact hcc
  have HC := Lib.hid hC
  have HPUT := Lib.hid hput
  have HPUT2 := Lib.hid hput2
  have HBX := Lib.hid hBx
  have HBX2 := Lib.hid hBx2
  have HBB : Hid (∀ b, Bx b → B b) := Lib.hid (fun b hb => (hBx b hb).1)
  have QO : Hid (∀ W, Below w.heap.size w W → W.cell? ⟨g, k * 2 + 1, none⟩ = some (.slice (some ⟨g2, 0, none⟩) (k2 + 1) c1)) := Lib.hid (fun W hW => (hW.cell (p := ⟨g, k * 2 + 1, none⟩) hgw).trans q1)
  have QI : Hid (∀ W, Below w.heap.size w W → W.cell? ⟨g2, k2 * 2 + 1, none⟩ = some (.slice A2 n2 c2)) := Lib.hid (fun W hW => (hW.cell (p := ⟨g2, k2 * 2 + 1, none⟩) hgw2).trans q3)
  have F0 : Hid (∀ W, Below w.heap.size w W → W.frozen? ⟨g2, k2 * 2 + 1, none⟩ = false) := Lib.hid (fun W hW => (hW.frozen (p := ⟨g2, k2 * 2 + 1, none⟩) hgw2).trans (hfz2 _))
  have z0 : ((k : Int) + 1 - 1) = k := by omega
  have z1 : (0 : Int) ≤ k := by omega
  have z2 : (k : Int) < k + 1 := by omega
  have z3 : ((k2 : Int) + 1 - 1) = k2 := by omega
  have z4 : (0 : Int) ≤ k2 := by omega
  have z5 : (k2 : Int) < k2 + 1 := by omega
  have z6 : ¬ ((k2 : Int) + 1 = 0) := by omega
  have z7 : ((k2 : Int) + 1 == 0) = false := by simp; omega
  have hmx : n2 + 1 ≤ maxLen := by unfold maxLen; omega
  have hmy : (n2 + 1) * 56 ≤ 140737488355328 := by omega
  clear hM hC hput hput2 hBx hBx2 hfz hfz2 hk hk2 q0 q1 q2 q3 h hmc hcc
  rcases Nat.lt_or_ge 7 s.size with h7 | h7
  · have hq1 := seven_nl (l := [115, 99, 114, 105, 112, 116, 32]) (fun e => h1 ⟨h7, e⟩)
    have hq2 := seven_nl (l := [109, 101, 116, 104, 111, 100, 32]) (fun e => h2 ⟨h7, e⟩)
    have e70 : (7 : Int) ≤ (s.size : Int) := by omega
    have e7 : decide ((7 : Int) < (s.size : Int)) = true := by simp; omega
    clear h1 h7 h2
    go_enter Tryz.func97, Tryz.ntmps97
    go_wp2_with fail
    refine (specPrsS s op a b c' d nm _ hs ho).mono ?_
    rintro e w2 ⟨rfl, hb⟩
    have hs2 := hb.size
    have HX := Lib.hid (Box.new w2 #[.int .i64 op, .int .i64 a, .int .i64 b, .int .i64 c', .int .i64 d, .string nm] 32)
    have HB3 := Lib.hid (hb.alloc hb.size (.cells #[.int .i64 op, .int .i64 a, .int .i64 b, .int .i64 c', .int .i64 d, .string nm] 32))
    clear hb
    have KEEP : ∀ W, Below (w2.alloc (.cells #[.int .i64 op, .int .i64 a, .int .i64 b, .int .i64 c', .int .i64 d, .string nm] 32)).heap.size (w2.alloc (.cells #[.int .i64 op, .int .i64 a, .int .i64 b, .int .i64 c', .int .i64 d, .string nm] 32)) W → W.cell? ⟨g, k * 2 + 1, none⟩ = some (.slice (some ⟨g2, 0, none⟩) (k2 + 1) c1) ∧ W.cell? ⟨g2, k2 * 2 + 1, none⟩ = some (.slice A2 n2 c2) ∧ W.cell? ⟨w2.heap.size, 0, none⟩ = some (.int .i64 op) ∧ W.cell? ⟨w2.heap.size, 1, none⟩ = some (.int .i64 a) ∧ W.cell? ⟨w2.heap.size, 2, none⟩ = some (.int .i64 b) ∧ W.cell? ⟨w2.heap.size, 3, none⟩ = some (.int .i64 c') ∧ W.cell? ⟨w2.heap.size, 4, none⟩ = some (.int .i64 d) ∧ W.cell? ⟨w2.heap.size, 5, none⟩ = some (.string nm) := fun W hW =>
      ⟨QO.out W (HB3.out.trans (hW.mono HB3.out.size)), QI.out W (HB3.out.trans (hW.mono HB3.out.size)), (HX.out.below hW).2 0 _ rfl, (HX.out.below hW).2 1 _ rfl, (HX.out.below hW).2 2 _ rfl, (HX.out.below hW).2 3 _ rfl, (HX.out.below hW).2 4 _ rfl, (HX.out.below hW).2 5 _ rfl⟩
    have K0 := Lib.hid (KEEP _ (Below.refl _ _))
    have K1 := Lib.hid (KEEP _ (Below.refl _ _).drew)
    have K2 := Lib.hid (fun o => KEEP _ (below_ad _ o))
    have HO6 : Hid (Below w.heap.size w (((w2.alloc (.cells #[.int .i64 op, .int .i64 a, .int .i64 b, .int .i64 c', .int .i64 d, .string nm] 32)).alloc (.cells #[.int .i64 op, .int .i64 a, .int .i64 b, .int .i64 c', .int .i64 d, .string nm] 32)).drew)) := Lib.hid (HB3.out.trans ((below_ad _ _).mono HB3.out.size))
    have HO3 : Hid (w.heap.size ≤ ((w2.alloc (.cells #[.int .i64 op, .int .i64 a, .int .i64 b, .int .i64 c', .int .i64 d, .string nm] 32)).alloc (.cells #[.int .i64 op, .int .i64 a, .int .i64 b, .int .i64 c', .int .i64 d, .string nm] 32)).drew.heap.size) := Lib.hid HO6.out.size
    clear KEEP
    obtain ⟨y0, -⟩ := K0.out
    go_wp2_with fail
    clear y0
    obtain ⟨x0, x1, x2, x3, x4, x5, x6, x7⟩ := K1.out
    have X := K2.out (.cells #[.int .i64 op, .int .i64 a, .int .i64 b, .int .i64 c', .int .i64 d, .string nm] 32)
    obtain ⟨y0, y1, y2, y3, y4, y5, y6, y7⟩ := X
    have zw : IntKind.i64.wrap (k : Int) = k := IntWalk.i64_in _ (by omega)
    have zw2 : IntKind.i64.wrap (k2 : Int) = k2 := IntWalk.i64_in _ (by omega)
    go_region_law (
      ((refine step_append_new _ insE rfl _ _ 24 rfl 32 j0 _ 56 Tryz.underlying24 hj hy0 hy1 rfl hy2 lo A2 n2 c2 code Bx2 rfl (HC.out.below (HB3.out.trans ((below_ad _ _).mono HB3.out.size))) _ 1 ⟨op, a, b, c', d, nm⟩ [.int .i64 op, .int .i64 a, .int .i64 b, .int .i64 c', .int .i64 d, .string nm] rfl (Rd.litAt _ _ _ _ (by simp)) (newIns _) hmx hmy (Nat.le_trans hlo HO3.out) ?_; intro A8 c8 w8 hG hT; (have k8 := (hT.cell (p := ⟨g, k * 2 + 1, none⟩) (Nat.lt_of_lt_of_le hgw HO3.out) (fun hb => (HBX.out _ (HBX2.out _ hb).1).2.1 rfl)).trans (K2.out _).1); (have k82 := (hT.cell (p := ⟨g2, k2 * 2 + 1, none⟩) (Nat.lt_of_lt_of_le hgw2 HO3.out) (fun hb => (HBX2.out _ hb).2.1 rfl)).trans (K2.out _).2.1); (have f8 := (hT.frozen (p := ⟨g2, k2 * 2 + 1, none⟩) (Nat.lt_of_lt_of_le hgw2 HO3.out) (fun hb => (HBX2.out _ hb).2.1 rfl)).trans (F0.out _ HO6.out)); (have HF := Lib.hid (put_ins (B := B) (snm := snm) (mnm := mnm) (code := code ++ ([⟨op, a, b, c', d, nm⟩] : List I)) (k2 := k2) (n2 := n2) (c8 := c8) HO6.out HBB.out HBX2.out hBg2 HPUT.out HPUT2.out hG hT)); clear hG hT)))
    all_goals (
      go_wp2_with fail
      go_ret2
      exact HF.out)
  · have e7 : decide ((7 : Int) < (s.size : Int)) = false := by simp; omega
    clear h1 h7 h2
    go_enter Tryz.func97, Tryz.ntmps97
    go_wp2_with fail
    refine (specPrsS s op a b c' d nm _ hs ho).mono ?_
    rintro e w2 ⟨rfl, hb⟩
    have hs2 := hb.size
    have HX := Lib.hid (Box.new w2 #[.int .i64 op, .int .i64 a, .int .i64 b, .int .i64 c', .int .i64 d, .string nm] 32)
    have HB3 := Lib.hid (hb.alloc hb.size (.cells #[.int .i64 op, .int .i64 a, .int .i64 b, .int .i64 c', .int .i64 d, .string nm] 32))
    clear hb
    have KEEP : ∀ W, Below (w2.alloc (.cells #[.int .i64 op, .int .i64 a, .int .i64 b, .int .i64 c', .int .i64 d, .string nm] 32)).heap.size (w2.alloc (.cells #[.int .i64 op, .int .i64 a, .int .i64 b, .int .i64 c', .int .i64 d, .string nm] 32)) W → W.cell? ⟨g, k * 2 + 1, none⟩ = some (.slice (some ⟨g2, 0, none⟩) (k2 + 1) c1) ∧ W.cell? ⟨g2, k2 * 2 + 1, none⟩ = some (.slice A2 n2 c2) ∧ W.cell? ⟨w2.heap.size, 0, none⟩ = some (.int .i64 op) ∧ W.cell? ⟨w2.heap.size, 1, none⟩ = some (.int .i64 a) ∧ W.cell? ⟨w2.heap.size, 2, none⟩ = some (.int .i64 b) ∧ W.cell? ⟨w2.heap.size, 3, none⟩ = some (.int .i64 c') ∧ W.cell? ⟨w2.heap.size, 4, none⟩ = some (.int .i64 d) ∧ W.cell? ⟨w2.heap.size, 5, none⟩ = some (.string nm) := fun W hW =>
      ⟨QO.out W (HB3.out.trans (hW.mono HB3.out.size)), QI.out W (HB3.out.trans (hW.mono HB3.out.size)), (HX.out.below hW).2 0 _ rfl, (HX.out.below hW).2 1 _ rfl, (HX.out.below hW).2 2 _ rfl, (HX.out.below hW).2 3 _ rfl, (HX.out.below hW).2 4 _ rfl, (HX.out.below hW).2 5 _ rfl⟩
    have K0 := Lib.hid (KEEP _ (Below.refl _ _))
    have K1 := Lib.hid (KEEP _ (Below.refl _ _).drew)
    have K2 := Lib.hid (fun o => KEEP _ (below_ad _ o))
    have HO6 : Hid (Below w.heap.size w (((w2.alloc (.cells #[.int .i64 op, .int .i64 a, .int .i64 b, .int .i64 c', .int .i64 d, .string nm] 32)).alloc (.cells #[.int .i64 op, .int .i64 a, .int .i64 b, .int .i64 c', .int .i64 d, .string nm] 32)).drew)) := Lib.hid (HB3.out.trans ((below_ad _ _).mono HB3.out.size))
    have HO3 : Hid (w.heap.size ≤ ((w2.alloc (.cells #[.int .i64 op, .int .i64 a, .int .i64 b, .int .i64 c', .int .i64 d, .string nm] 32)).alloc (.cells #[.int .i64 op, .int .i64 a, .int .i64 b, .int .i64 c', .int .i64 d, .string nm] 32)).drew.heap.size) := Lib.hid HO6.out.size
    clear KEEP
    obtain ⟨y0, -⟩ := K0.out
    go_wp2_with fail
    clear y0
    obtain ⟨x0, x1, x2, x3, x4, x5, x6, x7⟩ := K1.out
    have X := K2.out (.cells #[.int .i64 op, .int .i64 a, .int .i64 b, .int .i64 c', .int .i64 d, .string nm] 32)
    obtain ⟨y0, y1, y2, y3, y4, y5, y6, y7⟩ := X
    have zw : IntKind.i64.wrap (k : Int) = k := IntWalk.i64_in _ (by omega)
    have zw2 : IntKind.i64.wrap (k2 : Int) = k2 := IntWalk.i64_in _ (by omega)
    go_region_law (
      ((refine step_append_new _ insE rfl _ _ 24 rfl 32 j0 _ 56 Tryz.underlying24 hj hy0 hy1 rfl hy2 lo A2 n2 c2 code Bx2 rfl (HC.out.below (HB3.out.trans ((below_ad _ _).mono HB3.out.size))) _ 1 ⟨op, a, b, c', d, nm⟩ [.int .i64 op, .int .i64 a, .int .i64 b, .int .i64 c', .int .i64 d, .string nm] rfl (Rd.litAt _ _ _ _ (by simp)) (newIns _) hmx hmy (Nat.le_trans hlo HO3.out) ?_; intro A8 c8 w8 hG hT; (have k8 := (hT.cell (p := ⟨g, k * 2 + 1, none⟩) (Nat.lt_of_lt_of_le hgw HO3.out) (fun hb => (HBX.out _ (HBX2.out _ hb).1).2.1 rfl)).trans (K2.out _).1); (have k82 := (hT.cell (p := ⟨g2, k2 * 2 + 1, none⟩) (Nat.lt_of_lt_of_le hgw2 HO3.out) (fun hb => (HBX2.out _ hb).2.1 rfl)).trans (K2.out _).2.1); (have f8 := (hT.frozen (p := ⟨g2, k2 * 2 + 1, none⟩) (Nat.lt_of_lt_of_le hgw2 HO3.out) (fun hb => (HBX2.out _ hb).2.1 rfl)).trans (F0.out _ HO6.out)); (have HF := Lib.hid (put_ins (B := B) (snm := snm) (mnm := mnm) (code := code ++ ([⟨op, a, b, c', d, nm⟩] : List I)) (k2 := k2) (n2 := n2) (c8 := c8) HO6.out HBB.out HBX2.out hBg2 HPUT.out HPUT2.out hG hT)); clear hG hT)))
    all_goals (
      go_wp2_with fail
      go_ret2
      exact HF.out)
end Go.Proofs.YtgibhbplgiejpaaGreat
