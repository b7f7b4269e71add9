/- Of no program: what a law is handed, as data. -/
import Derived.Test.YtaepconmjmcbdaaDat
namespace Go.Proofs.Ytaepconmjmcbdaa
open Go.RowKit Go.Joins Go.ChangeShapes Go.WideShapes Go.Deep
mutual
/-- The program's type T is this one. -/
def tiedB (P : Program) : Ty → TypeId → Bool
  | .int, T => match P.underlying T with
    | some (.int .i64) => true
    | _ => false
  | .str, T => match P.underlying T with
    | some .string => true
    | _ => false
  | .bool, T => match P.underlying T with
    | some .bool => true
    | _ => false
  | .rcd ts, T => match P.underlying T with
    | some (.struct fs) => tiedAll P ts fs.toList 0 && P.cellsOf T == tyWidthAll ts
    | _ => false
  | .sl t, T => match P.underlying T with
    | some (.slice E) => tiedB P t E && P.cellsOf E == t.width && decide (0 < t.width)
    | _ => false
def tiedAll (P : Program) : List Ty → List Field → Nat → Bool
  | [], [], _ => true
  | t :: ts, f :: fs, o => tiedB P t f.type && f.offset == o && P.cellsOf f.type == t.width && tiedAll P ts fs (o + t.width)
  | _, _, _ => false
end
section
variable {H : Type} {enc : TypeId × Value → H} {P : Program} {W : World} {spare : Nat → Bool} {held : Bool}
theorem wf64 {a : Int} (h : (Lit.int .i64 a).wf = true) : -9223372036854775808 ≤ a ∧ a ≤ 9223372036854775807 := by
  have e1 : IntKind.i64.min = -9223372036854775808 := rfl
  have e2 : IntKind.i64.max = 9223372036854775807 := rfl
  simp [Lit.wf, e1, e2] at h
  omega
mutual
theorem open_dat : ∀ (t : Ty) (T : TypeId) (n : Nat) (cs : List Value) (y : DataW H × List MemPlace), tiedB P t T = true → DataW.trod enc P W 0 spare held n T cs = some y → (∀ x ∈ y.2, x.block < W.heap.size) → ∃ d, Has t d ∧ Lies W d cs
  | .int, T, n, cs, y, ht, h, _ => by
    have hu : P.underlying T = some (.int .i64) := by unfold tiedB at ht; split at ht <;> simp_all
    obtain ⟨a, e0, rfl, wa⟩ := DataW.trod_int hu h
    subst e0
    exact ⟨.i a, ⟨a, rfl, wf64 wa⟩, rfl⟩
  | .str, T, n, cs, y, ht, h, _ => by
    have hu : P.underlying T = some .string := by unfold tiedB at ht; split at ht <;> simp_all
    obtain ⟨s, e0, rfl, hs⟩ := DataW.trod_string hu h
    subst e0
    exact ⟨.s s, ⟨s, rfl, by unfold maxLen at hs; omega⟩, rfl⟩
  | .bool, T, n, cs, y, ht, h, _ => by
    have hu : P.underlying T = some .bool := by unfold tiedB at ht; split at ht <;> simp_all
    obtain ⟨b, e0, rfl⟩ := DataW.trod_bool hu h
    subst e0
    exact ⟨.b b, ⟨b, rfl⟩, rfl⟩
  | .rcd ts, T, n, cs, y, ht, h, hlt => by
    obtain ⟨fs, hu, htt, hcc⟩ : ∃ fs, P.underlying T = some (.struct fs) ∧ tiedAll P ts fs.toList 0 = true ∧ P.cellsOf T = tyWidthAll ts := by
      unfold tiedB at ht
      split at ht
      · rename_i fs hu; simp only [Bool.and_eq_true, beq_iff_eq] at ht; exact ⟨fs, hu, ht⟩
      · cases ht
    obtain ⟨xs, m, -, hy, hcl, hlen, hf⟩ := DataW.trod_struct hu h
    subst hy
    obtain ⟨ds, h1, h2⟩ := open_all ts fs.toList 0 m cs xs htt (by simpa using hlen) (fun i f hi => hf i f (by simpa using hi)) (fun x hx => hlt x hx) (by omega)
    exact ⟨.r ds, ⟨ds, rfl, h1⟩, h2⟩
  | .sl t, T, n, cs, y, ht, h, hlt => by
    obtain ⟨E, hu, hE, hC, hp⟩ : ∃ E, P.underlying T = some (.slice E) ∧ tiedB P t E = true ∧ P.cellsOf E = t.width ∧ 0 < t.width := by
      unfold tiedB at ht
      split at ht
      · rename_i E hu; simp at ht; exact ⟨E, hu, ht.1.1, ht.1.2, ht.2⟩
      · cases ht
    rcases open_slice hu h with ⟨rfl, -⟩ | ⟨a, len, cap, m, n', D, Pl, rfl, hb, hl, hm, hmm, hx, hi⟩
    · exact ⟨.l [], ⟨[], rfl, by simp, fun x hx => by cases hx⟩, none, 0, 0, rfl, rfl, Or.inl rfl⟩
    · have hlm : len ≤ m := by rw [hmm]; split <;> omega
      have key : ∀ k, k ≤ m → ∃ ds xs, ds.length = k ∧ (∀ x ∈ ds, Has t x) ∧ LiesAll W ds xs ∧ xs.length = k * t.width ∧ ∀ (j : Nat) (v : Value), xs[j]? = some v → W.cell? (a.add j) = some v := by
        intro k
        induction k with
        | zero => exact fun _ => ⟨[], [], rfl, (fun x hx => by cases hx), rfl, (by simp), (fun j v h => by simp at h)⟩
        | succ k ih =>
          intro hk
          obtain ⟨ds, xs, h1, h2, h3, h4, h5⟩ := ih (by omega)
          obtain ⟨cs', hc, ht'⟩ := hi k (by omega)
          rw [hC] at hc
          obtain ⟨_, hcl, hat⟩ := World.cells?_some hc
          obtain ⟨d, hd, hL⟩ := open_dat t E n' cs' (D k, Pl k) hE ht' (fun z hz => hlt z (by
            have e := congrArg Prod.snd hx
            simp only at e
            rw [e]
            exact List.mem_append_right _ (List.mem_flatMap.2 ⟨k, List.mem_range.2 (by omega), hz⟩)))
          refine ⟨ds ++ [d], xs ++ cs', by simp [h1], fun x hx => ?_, h3.snoc hL, by simp [h4, hcl, Nat.add_mul], fun j v hj => ?_⟩
          · rcases List.mem_append.1 hx with hx | hx
            · exact h2 x hx
            · rw [List.mem_singleton.1 hx]; exact hd
          · by_cases hjl : j < xs.length
            · rw [List.getElem?_append_left hjl] at hj
              exact h5 j v hj
            · rw [List.getElem?_append_right (by omega)] at hj
              have hlt' := (List.getElem?_eq_some_iff.1 hj).1
              have h6 := hat (j - xs.length) (by omega)
              rw [hj, add_add] at h6
              rw [← h6, show k * t.width + (j - xs.length) = j by omega]
      obtain ⟨ds, xs, h1, h2, h3, h4, h5⟩ := key len hlm
      refine ⟨.l ds, ⟨ds, rfl, by unfold maxLen at hm; omega, h2⟩, some a, len, cap, rfl, h1, ?_⟩
      by_cases hz : len = 0
      · exact Or.inl (List.eq_nil_of_length_eq_zero (by omega))
      · right
        have h0 : 0 < xs.length := by rw [h4]; exact Nat.mul_pos (by omega) hp
        have hc0 := h5 0 _ (List.getElem?_eq_getElem h0)
        have hsp : a.spot = none := by simpa [Addr.add] using World.cell?_spot hc0
        obtain ⟨b, off, spot⟩ := a
        simp only at hsp
        subst hsp
        refine ⟨b, off, xs, rfl, ?_, h3, fun j v hj => ?_⟩
        · exact hlt (.cell b off) (by
            have e := congrArg Prod.snd hx
            simp only at e
            rw [e, hC]
            exact List.mem_append_left _ (MemPlace.mem_row.2 ⟨0, Nat.mul_pos (by omega) hp, by simp⟩))
        · have := h5 j v hj
          rw [Addr.add_lit] at this
          exact this
theorem open_all : ∀ (ts : List Ty) (fs : List Field) (o m : Nat) (cs : List Value) (xs : List (DataW H × List MemPlace)), tiedAll P ts fs o = true → xs.length = fs.length →
    (∀ (i : Nat) (f : Field), fs[i]? = some f → DataW.trod enc P W 0 spare held m f.type ((cs.drop f.offset).take (P.cellsOf f.type)) = xs[i]?) → (∀ x ∈ xs.flatMap (·.2), x.block < W.heap.size) → cs.length = o + tyWidthAll ts →
    ∃ ds, HasAll ts ds ∧ LiesAll W ds (cs.drop o)
  | [], [], o, m, cs, xs, _, _, _, _, hl => ⟨[], rfl, by rw [LiesAll]; exact List.drop_of_length_le (by simp [tyWidthAll] at hl; omega)⟩
  | [], _ :: _, o, m, cs, xs, ht, _, _, _, _ => by simp [tiedAll] at ht
  | _ :: _, [], o, m, cs, xs, ht, _, _, _, _ => by simp [tiedAll] at ht
  | t :: ts, f :: fs, o, m, cs, x :: xs, ht, hlen, hf, hlt, hl => by
    simp only [tiedAll, Bool.and_eq_true, beq_iff_eq] at ht
    obtain ⟨⟨⟨h1, h2⟩, h3⟩, h4⟩ := ht
    have h0 := hf 0 f rfl
    rw [h2, h3] at h0
    obtain ⟨d, hd, hL⟩ := open_dat t f.type m _ x h1 h0 (fun z hz => hlt z (by simp [hz]))
    obtain ⟨ds, hds, hLs⟩ := open_all ts fs (o + t.width) m cs xs h4 (by simpa using hlen) (fun i g hi => by have := hf (i + 1) g (by simpa using hi); simpa using this) (fun z hz => hlt z (by simp at hz ⊢; exact Or.inr hz)) (by simp [tyWidthAll] at hl; omega)
    refine ⟨d :: ds, ⟨d, ds, rfl, hd, hds⟩, ?_⟩
    rw [LiesAll]
    exact ⟨_, _, by rw [← List.drop_drop]; exact (List.take_append_drop t.width (cs.drop o)).symm, hL, hLs⟩
  | t :: ts, f :: fs, o, m, cs, [], ht, hlen, _, _, _ => by simp at hlen
end
end
end Go.Proofs.Ytaepconmjmcbdaa
