/- Chapter 10, plain: what FnLinks says. -/
import Derived.Test.YtdedioghljkflaaLkOk
import Derived.Test.YtdedioghljkflaaLnkD
import Derived.LoopTactic
import Derived.Lib.Hide
import Derived.Deep.QuietTactic
import Derived.BigQuiet
import Derived.Deep.RegionWith
import Derived.Handy
namespace Go.Proofs.Ytdedioghljkflaa
open Go.RowKit
set_option linter.unusedVariables false
set_option linter.unusedSimpArgs false
theorem idxFrom_set {L : List Dat} {i j : Nat} {d e : Dat} (h : j < i) (he : (L.set i d)[j]? = some e) : L[j]? = some e := by rwa [List.getElem?_set_ne (by omega)] at he
theorem set_at {L : List Dat} {i : Nat} {d d' : Dat} (h : L[i]? = some d) : (L.set i d')[i]? = some d' := by rw [List.getElem?_set_self (List.getElem?_eq_some_iff.1 h).1]
theorem app_at {L : List Dat} {d : Dat} : (L ++ [d])[L.length]? = some d := by rw [List.getElem?_append_right (Nat.le_refl _), Nat.sub_self]; rfl
theorem app_lt {L : List Dat} {d e : Dat} {j : Nat} (h : j < L.length) (he : (L ++ [d])[j]? = some e) : e ∈ L := by rw [List.getElem?_append_left h] at he; exact List.mem_of_getElem? he
structure LinksF (L2 : List Dat) (f3 : Int) (e : Int) (M2 : List Dat) (g3 v : Int) : Prop where
  em : putL e (wrap64 (f3 + 1)) L2 = M2
  en : putN e f3 L2 = g3
  ev : putP e (wrap64 (f3 + 1)) L2 = v
  f1 : look (isF 0 v) 1 (-1) M2 = e
  f2 : look (isF 1 e) 0 0 M2 = v
  y3 : putN e g3 M2 = g3
  yv : putP e (wrap64 (g3 + 1)) M2 = v
  f4 : relX v 1 (putL e (wrap64 (g3 + 1)) M2) = M2
  f5 : look (isF 1 e) 0 0 L2 = 0 → look (isF 0 v) 1 (-1) (relX v 1 M2) = -1
theorem links_f {K : Nat} {L2 L4 L6 : List Dat} {f3 f5 e : Int} (ok : LnkOk K L2 f3 L4 f5 L6) (hK : K ≤ 100) (he : (-9223372036854775808 ≤ e ∧ e ≤ 9223372036854775807)) : ∃ (M2 : List Dat) (g3 v : Int), LinksF L2 f3 e M2 g3 v ∧ LnkOk (K + 1) M2 g3 L4 f5 L6 ∧ (-9223372036854775808 ≤ v ∧ v ≤ 9223372036854775807) := by
  have hw : wrap64 (f3 + 1) = f3 + 1 := wrap64_small (by have := ok.nx; omega)
  have okp := ok.put (by omega) he
  have hnx := ok.nx
  rcases idx_cases1 (isF 1 e) L2 with ⟨h1, h2⟩ | ⟨i, d, h1, h2, h3, h4, h5⟩
  · have em := putL_none (nx := wrap64 (f3 + 1)) h2
    have en := putN_none (f := f3) h1
    have ev : putP e (wrap64 (f3 + 1)) L2 = wrap64 (f3 + 1) := look_none h2
    rw [em, en] at okp
    obtain ⟨nx, hnxe⟩ : ∃ nx, wrap64 (f3 + 1) = nx := ⟨_, rfl⟩
    rw [hnxe] at em en ev okp
    have hnv : nx = f3 + 1 := by rw [← hnxe, hw]
    have hp : ∀ d ∈ L2, isF 0 nx d = false := fun d hd => isF_f (by have := ok.pos d hd; omega)
    have ht0 : isF 0 nx (.r [.i nx, .i e, .i 1]) = true := isF_t rfl
    have ht1 : isF 1 e (.r [.i nx, .i e, .i 1]) = true := isF_t rfl
    have hn1 : ∀ (j : Nat) (e' : Dat), j < L2.length → (L2 ++ [Dat.r [.i nx, .i e, .i 1]])[j]? = some e' → isF 1 e e' = false := fun j e' hj h => h2 e' (app_lt hj h)
    have hb2 : wrap64 (1 + 1) = 2 := wrap64_small (by omega)
    have ey : putL e (wrap64 (nx + 1)) (L2 ++ [Dat.r [.i nx, .i e, .i 1]]) = L2 ++ [Dat.r [.i nx, .i e, .i 2]] := by
      rw [putL_some hn1 app_at ht1, set_last rfl]
      show L2 ++ [Dat.r [.i nx, .i e, .i (wrap64 (1 + 1))]] = _
      rw [hb2]
    have hyv : putP e (wrap64 (nx + 1)) (L2 ++ [Dat.r [.i nx, .i e, .i 1]]) = nx := look_app h2 ht1
    refine ⟨L2 ++ [.r [.i nx, .i e, .i 1]], nx, nx, ⟨by rw [hnxe]; exact em, en, by rw [hnxe]; exact ev, look_app hp ht0, look_app h2 ht1, putN_some (idx_at hn1 app_at ht1).symm, hyv, ?_, fun _ => ?_⟩, okp, by omega⟩
    · rw [ey]
      have hl : wrap64 (2 - 1) = 1 := wrap64_small (by omega)
      rw [relX_left (i := L2.length) (d := .r [.i nx, .i e, .i 2]) (by omega) (fun j e' hj h => hp e' (app_lt hj h)) app_at (isF_t rfl) (by show ¬ wrap64 (2 - 1) < 1; rw [hl]; omega), set_last rfl]
      show L2 ++ [Dat.r [.i nx, .i e, .i (wrap64 (2 - 1))]] = _
      rw [hl]
    · have hl : wrap64 (1 - 1) = 0 := wrap64_small (by omega)
      rw [relX_app hp ht0 (by omega) (by show wrap64 (1 - 1) < 1; rw [hl]; omega)]
      exact look_none hp
  · obtain ⟨a, b, c, rfl⟩ := x3_of (ok.h2 d (List.mem_of_getElem? h2))
    have hbe : b = e := by have h9 : (b == e) = true := h3; simpa using h9
    have hps := ok.pos _ (List.mem_of_getElem? h2)
    have hct := ok.cnt _ (List.mem_of_getElem? h2)
    have hps' : 1 ≤ a ∧ a ≤ f3 := hps
    have hct' : 1 ≤ c ∧ c ≤ (K : Int) := hct
    have em := putL_some (nx := wrap64 (f3 + 1)) h5 h2 h3
    have en := putN_some (f := f3) h1
    have ev : putP e (wrap64 (f3 + 1)) L2 = a := look_at h5 h2 h3
    rw [em, en] at okp
    have hc1 : wrap64 (c + 1) = c + 1 := wrap64_small (by omega)
    have hc2 : wrap64 (c + 1 + 1) = c + 2 := (wrap64_small (by omega)).trans (by omega)
    have eb : bump (.r [.i a, .i b, .i c]) = .r [.i a, .i b, .i (c + 1)] := by show Dat.r [.i a, .i b, .i (wrap64 (c + 1))] = _; rw [hc1]
    have eb2 : bump (.r [.i a, .i b, .i (c + 1)]) = .r [.i a, .i b, .i (c + 2)] := by show Dat.r [.i a, .i b, .i (wrap64 (c + 1 + 1))] = _; rw [hc2]
    rw [eb] at em okp
    have hat : (L2.set i (Dat.r [.i a, .i b, .i (c + 1)]))[i]? = some (.r [.i a, .i b, .i (c + 1)]) := set_at h2
    have hn1 : ∀ (j : Nat) (e' : Dat), j < i → (L2.set i (Dat.r [.i a, .i b, .i (c + 1)]))[j]? = some e' → isF 1 e e' = false := fun j e' hj h => h5 j e' hj (idxFrom_set hj h)
    have hn0 : ∀ (j : Nat) (e' : Dat), j < i → (L2.set i (Dat.r [.i a, .i b, .i (c + 1)]))[j]? = some e' → isF 0 a e' = false := fun j e' hj h => first_at okp.apart hat j e' hj h
    have ht1 : isF 1 e (.r [.i a, .i b, .i (c + 1)]) = true := isF_t hbe
    have ey : putL e (wrap64 (f3 + 1)) (L2.set i (Dat.r [.i a, .i b, .i (c + 1)])) = L2.set i (Dat.r [.i a, .i b, .i (c + 2)]) := by rw [putL_some hn1 hat ht1, eb2, List.set_set]
    have hyv : putP e (wrap64 (f3 + 1)) (L2.set i (Dat.r [.i a, .i b, .i (c + 1)])) = a := look_at hn1 hat ht1
    refine ⟨L2.set i (.r [.i a, .i b, .i (c + 1)]), f3, a, ⟨em, en, ev, (look_at hn0 hat (isF_t rfl)).trans hbe, look_at hn1 hat ht1, putN_some (idx_at hn1 hat ht1).symm, hyv, ?_, fun h => ?_⟩, okp, by omega⟩
    · rw [ey]
      have hl : wrap64 (c + 2 - 1) = c + 1 := (wrap64_small (by omega)).trans (by omega)
      have hat2 : (L2.set i (Dat.r [.i a, .i b, .i (c + 2)]))[i]? = some (.r [.i a, .i b, .i (c + 2)]) := set_at h2
      rw [relX_left (i := i) (d := .r [.i a, .i b, .i (c + 2)]) (by omega) (fun j e' hj h => hn0 j e' hj (by rw [List.getElem?_set_ne (by omega)]; exact idxFrom_set hj h)) hat2 (isF_t rfl) (by show ¬ wrap64 (c + 2 - 1) < 1; rw [hl]; omega), List.set_set]
      show L2.set i (Dat.r [.i a, .i b, .i (wrap64 (c + 2 - 1))]) = _
      rw [hl]
    · have h9 : look (isF 1 e) 0 0 L2 = a := look_at h5 h2 h3
      omega
theorem quest_f {K : Nat} {L2 L4 L6 : List Dat} {f3 f5 e : Int} (ok : LnkOk K L2 f3 L4 f5 L6) (hK : K ≤ 100) : look (isF 0 (wrap64 (f5 + 1))) 1 (-1) (L4 ++ [.r [.i (wrap64 (f5 + 1)), .i e]]) = e ∧ dropQ (wrap64 (f5 + 1)) (L4 ++ [.r [.i (wrap64 (f5 + 1)), .i e]]) = L4 ∧ look (isF 0 (wrap64 (f5 + 1))) 1 (-1) L4 = -1 := by
  have hw : wrap64 (f5 + 1) = f5 + 1 := wrap64_small (by have := ok.asked; omega)
  have hp : ∀ d ∈ L4, isF 0 (wrap64 (f5 + 1)) d = false := fun d hd => isF_f (by have := ok.ids d hd; omega)
  refine ⟨look_app hp (isF_t rfl), ?_, look_none hp⟩
  rw [dropQ, List.filter_append]
  have h1 : L4.filter (fun d => !isF 0 (wrap64 (f5 + 1)) d) = L4 := List.filter_eq_self.2 (fun d hd => by rw [hp d hd]; rfl)
  rw [h1]
  have h2 : isF 0 (wrap64 (f5 + 1)) (Dat.r [.i (wrap64 (f5 + 1)), .i e]) = true := isF_t rfl
  simp [h2]
end Go.Proofs.Ytdedioghljkflaa
