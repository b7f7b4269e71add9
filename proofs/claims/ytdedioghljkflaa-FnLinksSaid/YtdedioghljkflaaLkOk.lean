/- Chapter 10, plain: what a drawn link keeps. -/
import Derived.Test.YtdedioghljkflaaLnkR
import Derived.LoopTactic
import Derived.Lib.Hide
import Derived.Deep.QuietTactic
import Derived.BigQuiet
import Derived.Deep.RegionWith
import Derived.Handy
namespace Go.Proofs.Ytdedioghljkflaa
open Go.RowKit
set_option linter.unusedVariables false
set_option linter.unusedSimpArgs false
/-- What a drawn link keeps: its positions are 1 to Next, each once; its counts are at least 1; its questions' ids are at most Asked. -/
structure LnkOk (K : Nat) (L2 : List Dat) (f3 : Int) (L4 : List Dat) (f5 : Int) (L6 : List Dat) : Prop where
  pos : ∀ d ∈ L2, 1 ≤ fld 0 d ∧ fld 0 d ≤ f3
  cnt : ∀ d ∈ L2, 1 ≤ fld 2 d ∧ fld 2 d ≤ K
  apart : (L2.map (fld 0)).Nodup
  nx : 0 ≤ f3 ∧ f3 ≤ K
  ids : ∀ d ∈ L4, fld 0 d ≤ f5
  asked : 0 ≤ f5 ∧ f5 ≤ K
  h2 : ∀ d ∈ L2, Has tyExport d
  h4 : ∀ d ∈ L4, Has tyQuestion d
  h6 : ∀ d ∈ L6, Has tyQuestion d
  l2 : L2.length ≤ K
  l4 : L4.length ≤ K
  l6 : L6.length ≤ K
theorem LnkOk.start : LnkOk 0 [] 0 [] 0 [] := ⟨(fun d h => by cases h), (fun d h => by cases h), List.nodup_nil, by omega, (fun d h => by cases h), by omega, (fun d h => by cases h), (fun d h => by cases h), (fun d h => by cases h), Nat.le_refl _, Nat.le_refl _, Nat.le_refl _⟩
theorem wrap64_small {n : Int} (h : -1000000 ≤ n ∧ n ≤ 1000000) : wrap64 n = n := by unfold wrap64; omega
theorem set_map {L : List Dat} {i : Nat} {d d' : Dat} {f : Dat → Int} (h : L[i]? = some d) (e : f d' = f d) : (L.set i d').map f = L.map f := by
  rw [List.map_set, e]
  have h1 : (L.map f)[i]? = some (f d) := by rw [List.getElem?_map, h]; rfl
  exact List.ext_getElem? fun j => by
    rw [List.getElem?_set]
    split
    · rename_i hj
      subst hj
      split
      · exact h1.symm
      · rename_i hl
        rw [List.getElem?_eq_none (by omega)]
    · rfl
section
variable {K : Nat} {L2 L4 L6 : List Dat} {f3 f5 x : Int}
theorem LnkOk.put (h : LnkOk K L2 f3 L4 f5 L6) (hK : K ≤ 1000) (hx : (-9223372036854775808 ≤ x ∧ x ≤ 9223372036854775807)) : LnkOk (K + 1) (putL x (wrap64 (f3 + 1)) L2) (putN x f3 L2) L4 f5 L6 := by
  have hw : wrap64 (f3 + 1) = f3 + 1 := wrap64_small (by have := h.nx; omega)
  have hl := putL_len x (wrap64 (f3 + 1)) L2
  have hh := putL_has (nx := wrap64 (f3 + 1)) hx (wrap64_bd _) h.h2
  have e4 := h.nx; have e5 := h.asked; have e6 := h.l2; have e7 := h.l4; have e8 := h.l6
  rcases idx_cases1 (isF 1 x) L2 with ⟨h1, h2⟩ | ⟨i, d, h1, h2, h3, h4, h5⟩
  · rw [putL_none h2, putN_none h1] at *
    rw [hw] at *
    refine ⟨fun d hd => ?_, fun d hd => ?_, ?_, by omega, h.ids, by omega, hh, h.h4, h.h6, by omega, by omega, by omega⟩
    · rcases List.mem_append.1 hd with hd | hd
      · have := h.pos d hd; omega
      · rw [List.mem_singleton.1 hd]; show 1 ≤ f3 + 1 ∧ f3 + 1 ≤ f3 + 1; omega
    · rcases List.mem_append.1 hd with hd | hd
      · have := h.cnt d hd; omega
      · rw [List.mem_singleton.1 hd]; show (1 : Int) ≤ 1 ∧ (1 : Int) ≤ ((K + 1 : Nat) : Int); omega
    · rw [List.map_append]
      refine List.nodup_append.2 ⟨h.apart, by simp, fun a ha b hb e => ?_⟩
      obtain ⟨d, hd, rfl⟩ := List.mem_map.1 ha
      rw [List.map_cons, List.map_nil, List.mem_singleton] at hb
      have h9 : fld 0 d = f3 + 1 := by rw [e, hb]; rfl
      have := h.pos d hd
      omega
  · rw [putL_some h5 h2 h3, putN_some h1] at *
    have hc := h.cnt d (List.mem_of_getElem? h2)
    refine ⟨fun e he => ?_, fun e he => ?_, ?_, by omega, h.ids, by omega, hh, h.h4, h.h6, by omega, by omega, by omega⟩
    · rcases mem_set_or he with rfl | he
      · exact h.pos d (List.mem_of_getElem? h2)
      · exact h.pos e he
    · rcases mem_set_or he with rfl | he
      · have e9 : fld 2 (bump d) = fld 2 d + 1 := wrap64_small (by omega)
        rw [e9]; omega
      · have := h.cnt e he; omega
    · rw [set_map h2 (show fld 0 (bump d) = fld 0 d from rfl)]; exact h.apart
theorem relL_sub (p n : Int) : ∀ L : List Dat, ((relL p n L).map (fld 0)).Sublist (L.map (fld 0))
  | [] => List.Sublist.refl _
  | y :: L => by
    rw [relL]
    split
    · split
      · exact List.Sublist.cons _ (List.Sublist.refl _)
      · exact List.Sublist.refl _
    · exact List.Sublist.cons_cons _ (relL_sub p n L)
theorem relL_mem {p n : Int} : ∀ {L : List Dat} {d : Dat}, d ∈ relL p n L → d ∈ L ∨ ∃ e ∈ L, d = setC (wrap64 (fld 2 e - n)) e ∧ 1 ≤ wrap64 (fld 2 e - n)
  | [], d, h => by cases h
  | y :: L, d, h => by
    rw [relL] at h
    split at h
    · split at h
      · exact Or.inl (List.mem_cons_of_mem _ h)
      · rcases List.mem_cons.1 h with rfl | h
        · exact Or.inr ⟨y, List.mem_cons_self, rfl, by omega⟩
        · exact Or.inl (List.mem_cons_of_mem _ h)
    · rcases List.mem_cons.1 h with rfl | h
      · exact Or.inl List.mem_cons_self
      · rcases relL_mem h with h | ⟨e, he, h1, h2⟩
        · exact Or.inl (List.mem_cons_of_mem _ h)
        · exact Or.inr ⟨e, List.mem_cons_of_mem _ he, h1, h2⟩
theorem LnkOk.rel {p n : Int} (h : LnkOk K L2 f3 L4 f5 L6) (hK : K ≤ 1000) (hn : 1 ≤ n ∧ n ≤ 1000) : LnkOk K (relX p n L2) f3 L4 f5 L6 := by
  have e : relX p n L2 = relL p n L2 := by rw [relX, if_neg (by omega)]
  rw [e]
  have hl := relL_len p n L2
  have e6 := h.l2
  refine ⟨fun d hd => ?_, fun d hd => ?_, (relL_sub p n L2).nodup h.apart, h.nx, h.ids, h.asked, relL_has h.h2, h.h4, h.h6, by omega, h.l4, h.l6⟩
  · rcases relL_mem hd with hd | ⟨e, he, rfl, -⟩
    · exact h.pos d hd
    · exact h.pos e he
  · rcases relL_mem hd with hd | ⟨e, he, rfl, h1⟩
    · exact h.cnt d hd
    · have hc := h.cnt e he
      have e9 : wrap64 (fld 2 e - n) = fld 2 e - n := wrap64_small (by omega)
      show 1 ≤ wrap64 (fld 2 e - n) ∧ wrap64 (fld 2 e - n) ≤ K
      rw [e9] at h1 ⊢
      omega
theorem has_x2 {a b : Int} (h1 : (-9223372036854775808 ≤ a ∧ a ≤ 9223372036854775807)) (h2 : (-9223372036854775808 ≤ b ∧ b ≤ 9223372036854775807)) : Has tyQuestion (.r [.i a, .i b]) := by
  simp only [tyQuestion, Has, HasAll]
  exact ⟨_, rfl, _, _, rfl, ⟨a, rfl, h1.1, h1.2⟩, _, _, rfl, ⟨b, rfl, h2.1, h2.2⟩, rfl⟩
theorem snoc_all {P : Dat → Prop} {L : List Dat} {d : Dat} (h : ∀ x ∈ L, P x) (hd : P d) : ∀ x ∈ L ++ [d], P x := fun x hx => by
  rcases List.mem_append.1 hx with hx | hx
  · exact h x hx
  · rw [List.mem_singleton.1 hx]; exact hd
theorem LnkOk.ask (h : LnkOk K L2 f3 L4 f5 L6) (hK : K ≤ 1000) (hx : (-9223372036854775808 ≤ x ∧ x ≤ 9223372036854775807)) : LnkOk (K + 1) L2 f3 (L4 ++ [.r [.i (wrap64 (f5 + 1)), .i x]]) (wrap64 (f5 + 1)) L6 := by
  have e4 := h.nx; have e5 := h.asked; have e6 := h.l2; have e7 := h.l4; have e8 := h.l6
  have hw : wrap64 (f5 + 1) = f5 + 1 := wrap64_small (by omega)
  rw [hw]
  refine ⟨h.pos, fun d hd => by have := h.cnt d hd; omega, h.apart, by omega, snoc_all (fun d hd => by have := h.ids d hd; omega) (by show f5 + 1 ≤ f5 + 1; omega), by omega, h.h2, snoc_all h.h4 (has_x2 (by omega) hx), h.h6, by omega, by rw [List.length_append]; show L4.length + 1 ≤ K + 1; omega, by omega⟩
theorem LnkOk.ans {a : Int} (h : LnkOk K L2 f3 L4 f5 L6) (ha : (-9223372036854775808 ≤ a ∧ a ≤ 9223372036854775807)) (hx : (-9223372036854775808 ≤ x ∧ x ≤ 9223372036854775807)) : LnkOk (K + 1) L2 f3 L4 f5 (L6 ++ [.r [.i a, .i x]]) := by
  have e4 := h.nx; have e5 := h.asked; have e6 := h.l2; have e7 := h.l4; have e8 := h.l6
  exact ⟨h.pos, fun d hd => by have := h.cnt d hd; omega, h.apart, by omega, h.ids, by omega, h.h2, h.h4, snoc_all h.h6 (has_x2 ha hx), by omega, by omega, by rw [List.length_append]; show L6.length + 1 ≤ K + 1; omega⟩
end
/-! ### What FnLinks says, plainly -/
theorem look_mem {p : Dat → Bool} {k : Nat} {z : Int} : ∀ {L : List Dat}, look p k z L = z ∨ ∃ d ∈ L, p d = true ∧ look p k z L = fld k d
  | [] => Or.inl rfl
  | y :: L => by
    rw [look]
    split
    · exact Or.inr ⟨y, List.mem_cons_self, by assumption, rfl⟩
    · rcases look_mem (p := p) (k := k) (z := z) (L := L) with h | ⟨d, hd, h1, h2⟩
      · exact Or.inl h
      · exact Or.inr ⟨d, List.mem_cons_of_mem _ hd, h1, h2⟩
theorem look_app {p : Dat → Bool} {k : Nat} {z : Int} {d : Dat} : ∀ {L : List Dat}, (∀ x ∈ L, p x = false) → p d = true → look p k z (L ++ [d]) = fld k d
  | [], _, hp => by rw [List.nil_append, look, if_pos hp]
  | y :: L, h, hp => by rw [List.cons_append, look, if_neg (by rw [h y List.mem_cons_self]; simp), look_app (fun x hx => h x (List.mem_cons_of_mem _ hx)) hp]
theorem relX_app {p n : Int} {L : List Dat} {d : Dat} (h : ∀ x ∈ L, isF 0 p x = false) (hd : isF 0 p d = true) (hn : 1 ≤ n) (hc : wrap64 (fld 2 d - n) < 1) : relX p n (L ++ [d]) = L := by
  rw [relX_out (i := L.length) (d := d) (by omega) (fun j e hj he => by rw [List.getElem?_append_left hj] at he; exact h e (List.mem_of_getElem? he)) (by rw [List.getElem?_append_right (Nat.le_refl _), Nat.sub_self]; rfl) hd hc]
  rw [List.eraseIdx_append_of_length_le (Nat.le_refl _), Nat.sub_self]
  simp
theorem first_at {L : List Dat} {i : Nat} {d : Dat} (hn : (L.map (fld 0)).Nodup) (h : L[i]? = some d) : ∀ (j : Nat) (e : Dat), j < i → L[j]? = some e → isF 0 (fld 0 d) e = false := fun j e hj he => isF_f fun x => by
  have h1 : (L.map (fld 0))[i]? = some (fld 0 d) := by rw [List.getElem?_map, h]; rfl
  have h2 : (L.map (fld 0))[j]? = some (fld 0 d) := by rw [List.getElem?_map, he]; show some (fld 0 e) = _; rw [x]
  obtain ⟨a1, a2⟩ := List.getElem?_eq_some_iff.1 h1
  obtain ⟨b1, b2⟩ := List.getElem?_eq_some_iff.1 h2
  exact List.pairwise_iff_getElem.1 hn j i b1 a1 hj (by rw [b2, a2])
end Go.Proofs.Ytdedioghljkflaa
