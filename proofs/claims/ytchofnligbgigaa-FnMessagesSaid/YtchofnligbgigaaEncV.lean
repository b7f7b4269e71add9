/- Chapter 11, plain: a message's numbers and its encoding. -/
import Derived.Test.YtchofnligbgigaaMsgV
import Derived.Test.YtchofnligbgigaaStrB
import Derived.Test.YtchofnligbgigaaEncS
import Derived.LoopTactic
import Derived.Lib.Hide
import Derived.Deep.QuietTactic
import Derived.BigQuiet
import Derived.Deep.RegionWith
import Derived.Handy
namespace Go.Proofs.Ytchofnligbgigaa
open Go.RowKit
set_option linter.unusedVariables false
set_option linter.unusedSimpArgs false
def flatW (L : List Dat) : List Int := L.flatMap fun d => [fld 0 d, fld 1 d]
theorem flatW_next {L : List Dat} {i : Nat} {p q : Int} (h : L[i]? = some (.r [.i p, .i q])) : flatW (L.take (i + 1)) = flatW (L.take i) ++ [p, q] := by
  rw [flatW, flatW, List.take_add_one, h, List.flatMap_append]
  rfl
theorem flatW_len (L : List Dat) : (flatW L).length = 2 * L.length := by
  induction L with
  | nil => rfl
  | cons d L ih => rw [flatW, List.flatMap_cons, List.length_append, ← flatW, ih, List.length_cons]; simp; omega
/-- A message's numbers. -/
def numsM (f0 f1 f2 f3 : Int) (L5 : List Dat) (f6_0 f6_1 f7 f8_0 f8_1 f8_2 : Int) : List Int := [f0, f1, f2, f3, f7, f8_0, f8_1, f8_2, f6_0, f6_1, (L5.length : Int)] ++ flatW L5
/-- A message's encoding, if it is valid. -/
def encM (f0 f1 f2 f3 : Int) (f4 : ByteArray) (L5 : List Dat) (f6_0 f6_1 f7 f8_0 f8_1 f8_2 : Int) : List Int :=
  if msgB f0 f1 f2 f3 f4 L5 f6_0 f6_1 f7 f8_0 f8_1 f8_2 = true then encL (numsM f0 f1 f2 f3 L5 f6_0 f6_1 f7 f8_0 f8_1 f8_2) ++ encU ((strI f4).length : Int) ++ strI f4 else []
theorem wire_in {d : Dat} (h : wireD d = true) : (0 ≤ fld 0 d ∧ fld 0 d ≤ 999999) ∧ (0 ≤ fld 1 d ∧ fld 1 d ≤ 999999) := by
  unfold wireD wireB numB oneB inR at h
  generalize fld 0 d = k at *
  generalize fld 1 d = n at *
  split at h
  · rename_i e
    have := of_decide_eq_true h
    omega
  · split at h
    · have := of_decide_eq_true h
      omega
    · simp at h
      omega
structure MsgIn (f0 f1 f2 f3 : Int) (f4 : ByteArray) (L5 : List Dat) (f6_0 f6_1 f7 f8_0 f8_1 f8_2 : Int) : Prop where
  i0 : (0 ≤ f0 ∧ f0 ≤ 999999)
  i1 : (0 ≤ f1 ∧ f1 ≤ 999999)
  i2 : (0 ≤ f2 ∧ f2 ≤ 999999)
  i3 : (0 ≤ f3 ∧ f3 ≤ 999999)
  i4 : f4.size ≤ 6
  i5 : L5.length ≤ 2 ∧ ∀ d ∈ L5, wireD d = true
  i6 : (0 ≤ f6_0 ∧ f6_0 ≤ 999999) ∧ (0 ≤ f6_1 ∧ f6_1 ≤ 999999)
  i7 : (0 ≤ f7 ∧ f7 ≤ 999999)
  i8 : (0 ≤ f8_0 ∧ f8_0 ≤ 999999) ∧ (0 ≤ f8_1 ∧ f8_1 ≤ 999999) ∧ (0 ≤ f8_2 ∧ f8_2 ≤ 999999)
theorem wireB_in {k n : Int} (h : wireB k n = true) : (0 ≤ k ∧ k ≤ 999999) ∧ (0 ≤ n ∧ n ≤ 999999) := wire_in (d := .r [.i k, .i n]) h
theorem name_in {s : ByteArray} (h : isName s = true) : s.size ≤ 6 := by
  simp [isName, inR] at h
  omega
theorem calm_in {f2 : Int} {f4 : ByteArray} {L5 : List Dat} {a b c : Int} (h : calmB f2 f4 L5 a b c = true) : f2 = 0 ∧ f4.size = 0 ∧ L5 = [] ∧ a = 0 ∧ b = 0 ∧ c = 0 := by
  simp only [calmB, zzz, Bool.and_eq_true, decide_eq_true_eq] at h
  obtain ⟨⟨⟨h1, h2⟩, h3⟩, ⟨h4, h5⟩, h6⟩ := h
  exact ⟨h1, h2, List.length_eq_zero_iff.1 h3, h4, h5, h6⟩
theorem one_in {n : Int} (h : oneB n = true) : (0 ≤ n ∧ n ≤ 999999) := by simp [oneB, inR] at h; omega
theorem num_in {n : Int} (h : numB n = true) : (0 ≤ n ∧ n ≤ 999999) := by simp [numB, inR] at h; omega
theorem zz_in {a b : Int} (h : zz a b = true) : a = 0 ∧ b = 0 := by simpa [zz] using h
theorem msg_in {f0 f1 f2 f3 : Int} {f4 : ByteArray} {L5 : List Dat} {f6_0 f6_1 f7 f8_0 f8_1 f8_2 : Int} (h : msgB f0 f1 f2 f3 f4 L5 f6_0 f6_1 f7 f8_0 f8_1 f8_2 = true) : MsgIn f0 f1 f2 f3 f4 L5 f6_0 f6_1 f7 f8_0 f8_1 f8_2 := by
  have z9 : (0 : Int) ≤ 0 ∧ (0 : Int) ≤ 999999 := by decide
  by_cases k1 : f0 = 1
  · subst k1
    simp only [msgB, if_pos, Bool.and_eq_true, decide_eq_true_eq] at h
    obtain ⟨⟨⟨⟨⟨⟨h1, h2⟩, h3⟩, h4⟩, h5⟩, h6⟩, h7⟩ := h
    obtain ⟨rfl, rfl⟩ := zz_in h1
    subst h2
    simp only [argsB, Bool.and_eq_true, decide_eq_true_eq, List.all_eq_true] at h6
    simp only [tagB, Bool.and_eq_true] at h7
    have h3' : (0 ≤ f1 ∧ f1 ≤ 999999) ∧ (0 ≤ f2 ∧ f2 ≤ 999999) := by
      unfold oneTo at h3
      split at h3
      · rename_i e
        have := one_in h3
        omega
      · simp only [Bool.and_eq_true, decide_eq_true_eq] at h3
        have := one_in h3.1
        omega
    exact ⟨by decide, h3'.1, h3'.2, one_in h4, name_in h5, h6, ⟨z9, z9⟩, z9, one_in h7.1.1, num_in h7.1.2, one_in h7.2⟩
  · by_cases k2 : f0 = 2
    · subst k2
      rw [msgB, if_neg (by decide), if_pos rfl] at h
      simp only [Bool.and_eq_true, decide_eq_true_eq] at h
      obtain ⟨⟨⟨⟨h1, rfl⟩, rfl⟩, h4⟩, h5⟩ := h
      obtain ⟨rfl, h6, rfl, rfl, rfl, rfl⟩ := calm_in h1
      exact ⟨by decide, z9, z9, one_in h4, by omega, ⟨by simp, fun d hd => by cases hd⟩, wireB_in h5, z9, z9, z9, z9⟩
    · by_cases k3 : f0 = 3 ∨ f0 = 4 ∨ f0 = 5
      · rw [msgB, if_neg k1, if_neg k2, if_pos k3] at h
        simp only [Bool.and_eq_true, decide_eq_true_eq] at h
        obtain ⟨⟨⟨⟨h1, rfl⟩, rfl⟩, h4⟩, h5⟩ := h
        obtain ⟨rfl, h6, rfl, rfl, rfl, rfl⟩ := calm_in h1
        obtain ⟨rfl, rfl⟩ := zz_in h4
        exact ⟨by omega, z9, z9, one_in h5, by omega, ⟨by simp, fun d hd => by cases hd⟩, ⟨z9, z9⟩, z9, z9, z9, z9⟩
      · by_cases k6 : f0 = 6
        · subst k6
          rw [msgB, if_neg k1, if_neg k2, if_neg k3, if_pos rfl] at h
          simp only [Bool.and_eq_true, decide_eq_true_eq] at h
          obtain ⟨⟨⟨⟨h1, rfl⟩, h3⟩, h4⟩, h5⟩ := h
          obtain ⟨rfl, h6, rfl, rfl, rfl, rfl⟩ := calm_in h1
          obtain ⟨rfl, rfl⟩ := zz_in h3
          exact ⟨by decide, one_in h4, z9, z9, by omega, ⟨by simp, fun d hd => by cases hd⟩, ⟨z9, z9⟩, one_in h5, z9, z9, z9⟩
        · rw [msgB, if_neg k1, if_neg k2, if_neg k3, if_neg k6] at h
          cases h
theorem flatW_in {L : List Dat} (h : ∀ d ∈ L, wireD d = true) : ∀ z ∈ flatW L, (0 ≤ z ∧ z ≤ 999999) := fun z hz => by
  obtain ⟨d, hd, hz⟩ := List.mem_flatMap.1 hz
  have := wire_in (h d hd)
  simp at hz
  rcases hz with rfl | rfl
  · exact this.1
  · exact this.2
theorem nums_in {f0 f1 f2 f3 : Int} {f4 : ByteArray} {L5 : List Dat} {f6_0 f6_1 f7 f8_0 f8_1 f8_2 : Int} (h : MsgIn f0 f1 f2 f3 f4 L5 f6_0 f6_1 f7 f8_0 f8_1 f8_2) : ∀ z ∈ numsM f0 f1 f2 f3 L5 f6_0 f6_1 f7 f8_0 f8_1 f8_2, (0 ≤ z ∧ z ≤ 999999) := fun z hz => by
  rcases List.mem_append.1 hz with hz | hz
  · have h5 := h.i5.1
    simp only [List.mem_cons, List.not_mem_nil, or_false] at hz
    rcases hz with rfl | rfl | rfl | rfl | rfl | rfl | rfl | rfl | rfl | rfl | rfl
    · exact h.i0
    · exact h.i1
    · exact h.i2
    · exact h.i3
    · exact h.i7
    · exact h.i8.1
    · exact h.i8.2.1
    · exact h.i8.2.2
    · exact h.i6.1
    · exact h.i6.2
    · omega
  · exact flatW_in h.i5.2 z hz
theorem nums_len (f0 f1 f2 f3 : Int) (L5 : List Dat) (f6_0 f6_1 f7 f8_0 f8_1 f8_2 : Int) : (numsM f0 f1 f2 f3 L5 f6_0 f6_1 f7 f8_0 f8_1 f8_2).length = 11 + 2 * L5.length := by
  rw [numsM, List.length_append, flatW_len]; rfl
theorem own_lit2 (w : World) (g : Nat) (hg : w.heap.size = g) (zs : List Int) (C : Array Value) (n : Nat) (hC : C = (zs.map (Value.int .i64)).toArray) (hn : zs.length = n) (hm : n ≤ 9223372036854775807) : Own .i64 3 g (w.alloc (.cells C 3)).heap.size (w.alloc (.cells C 3)) (some ⟨g, 0, none⟩) n n zs := by
  subst hg hC hn
  refine ⟨rfl, ⟨by simp, Or.inr ⟨w.heap.size, zs.length, (zs.map (Value.int .i64)).toArray, rfl, Nat.le_refl _, ?_, Nat.le_refl _, by unfold maxLen; omega, by simp, List.take_of_length_le (by simp)⟩⟩, Nat.le_refl _, fun a e => ?_⟩
  · show (w.heap.push _)[w.heap.size]? = _
    simp
  · obtain rfl := Option.some.inj e
    simp
/-- A string's bytes, made at any world: as functions of the world. -/
theorem conv_fun (s : ByteArray) : ∃ (F : World → World) (A : World → Option Addr) (c : World → Nat), (∀ w, (convert 9 22 (.string s)).run Try.prog w = .ok (.slice (A w) s.size (c w)) (F w)) ∧ ∀ w, Rz .u8 (F w) (A w) s.size (strI s) ∧ Below w.heap.size w (F w) := by
  have h : ∀ w : World, ∃ r : World × Option Addr × Nat, (convert 9 22 (.string s)).run Try.prog w = .ok (.slice r.2.1 s.size r.2.2) r.1 ∧ Rz .u8 r.1 r.2.1 s.size (strI s) ∧ Below w.heap.size w r.1 := fun w => by
    obtain ⟨A, n, c, w', hrun, hR, rfl, hb⟩ := bytesOfStr w s
    exact ⟨(w', A, c), hrun, hR, hb⟩
  obtain ⟨f, hf⟩ := Classical.axiomOfChoice h
  exact ⟨fun w => (f w).1, fun w => (f w).2.1, fun w => (f w).2.2, fun w => (hf w).1, fun w => (hf w).2⟩
theorem Box.step {b : Nat} {cs : List Value} {w w' : World} {lo hi : Nat} (h : Box b cs w) (hs : Step lo hi w w') (hl : b < lo) : Box b cs w' :=
  ⟨Nat.lt_of_lt_of_le h.1 hs.size, fun i v hv => (World.cell?_of_block (w := w) (hs.block b h.1 (by omega))).trans (h.2 i v hv)⟩
/-- Numbers that are being laid behind a box that stands. -/
structure NumS (W : World) (g lo : Nat) (cs : List Value) (zs : List Int) (w : World) (A : Option Addr) (n c : Nat) : Prop where
  own : Own .i64 3 lo w.heap.size w A n c zs
  box : Box g cs w
  low : Below W.heap.size W w
  gl : g < lo
  wl : W.heap.size ≤ lo
  lw : lo ≤ w.heap.size
theorem NumS.next {W w w1 w2 : World} {g lo : Nat} {cs : List Value} {zs ys : List Int} {A A2 : Option Addr} {n c n2 c2 : Nat} (h : NumS W g lo cs zs w A n c) (hb : Below w.heap.size w w1) (hO : Own .i64 3 lo w2.heap.size w2 A2 n2 c2 (zs ++ ys)) (hS : Step lo w.heap.size w1 w2) : NumS W g lo cs (zs ++ ys) w2 A2 n2 c2 := by
  have h1 := h.low.trans (hb.mono h.low.size)
  exact ⟨hO, (h.box.below hb).step hS h.gl, hS.below h1 h.wl h1.size, h.gl, h.wl, Nat.le_trans h.lw (Nat.le_trans hb.size hS.size)⟩
theorem NumS.below {W w w1 : World} {g lo : Nat} {cs : List Value} {zs : List Int} {A : Option Addr} {n c : Nat} (h : NumS W g lo cs zs w A n c) (hb : Below w.heap.size w w1) : NumS W g lo cs zs w1 A n c :=
  ⟨(h.own.below hb).more hb.size (Nat.le_refl _), h.box.below hb, h.low.trans (hb.mono h.low.size), h.gl, h.wl, Nat.le_trans h.lw hb.size⟩
end Go.Proofs.Ytchofnligbgigaa
