/- Of no program: changing one value changes the hash; the ciphers are inverse. -/
import Derived.Test.YtkbenfnmigkclaaCryS
namespace Go.Proofs.Ytkbenfnmigkclaa
theorem inv_div {D q : Int} (h : D * 1000003 = 2147483647 * q) : D = 2147483647 * (q * 1523789695 - D * 709572) := by
  have e2 : (1000003 : Int) * 1523789695 = 1 + 2147483647 * 709572 := by decide
  have e3 : D * (1000003 * 1523789695) = D + D * (2147483647 * 709572) := by rw [e2, Int.mul_add, Int.mul_one]
  rw [← Int.mul_assoc, h, Int.mul_assoc] at e3
  rw [Int.mul_sub, Int.mul_left_comm 2147483647 D, e3, Int.add_sub_cancel]
theorem hstep_inj {d e v : Int} (h0 : 0 ≤ d) (h1 : d ≤ 2147483646) (h2 : 0 ≤ e) (h3 : e ≤ 2147483646) (h : hstep d v = hstep e v) : d = e := by
  unfold hstep at h
  have a1 := Int.emod_add_mul_ediv (d * 1000003 + v % 2147483647 + 13) 2147483647
  have a2 := Int.emod_add_mul_ediv (e * 1000003 + v % 2147483647 + 13) 2147483647
  rw [h] at a1
  generalize (e * 1000003 + v % 2147483647 + 13) % 2147483647 = m at *
  generalize (d * 1000003 + v % 2147483647 + 13) / 2147483647 = q1 at *
  generalize (e * 1000003 + v % 2147483647 + 13) / 2147483647 = q2 at *
  generalize v % 2147483647 = y at *
  have hq : (d - e) * 1000003 = 2147483647 * (q1 - q2) := by
    rw [Int.sub_mul, Int.mul_sub]
    generalize d * 1000003 = x1 at *
    generalize e * 1000003 = x2 at *
    generalize 2147483647 * q1 = y1 at *
    generalize 2147483647 * q2 = y2 at *
    omega
  have hd := inv_div hq
  generalize (q1 - q2) * 1523789695 - (d - e) * 709572 = s at hd
  clear hq a1 a2 h
  omega
theorem hfold_inj (zs : List Int) : ∀ d e : Int, 0 ≤ d → d ≤ 2147483646 → 0 ≤ e → e ≤ 2147483646 → hfold d zs = hfold e zs → d = e := by
  induction zs with
  | nil => exact fun d e _ _ _ _ h => h
  | cons z zs ih => exact fun d e h0 h1 h2 h3 h => hstep_inj h0 h1 h2 h3 (ih _ _ (hstep_in d z).1 (hstep_in d z).2 (hstep_in e z).1 (hstep_in e z).2 h)
theorem hstep_ne {d u v : Int} (h : ¬ u % 2147483647 = v % 2147483647) : ¬ hstep d u = hstep d v := by
  unfold hstep
  omega
theorem hfold_set (d : Int) (zs : List Int) (i : Nat) (z v : Int) (hz : zs[i]? = some z) (h : ¬ v % 2147483647 = z % 2147483647) : ¬ hfold d (zs.set i v) = hfold d zs := by
  have hi := (List.getElem?_eq_some_iff.1 hz).1
  have hv := (List.getElem?_eq_some_iff.1 hz).2
  have e1 : zs.set i v = zs.take i ++ v :: zs.drop (i + 1) := List.set_eq_take_append_cons_drop.trans (if_pos hi)
  have e2 : zs = zs.take i ++ z :: zs.drop (i + 1) := by
    rw [← hv, ← List.drop_eq_getElem_cons hi, List.take_append_drop]
  intro he
  rw [e1] at he
  have he' : hfold d (zs.take i ++ v :: zs.drop (i + 1)) = hfold d (zs.take i ++ z :: zs.drop (i + 1)) := by rw [he, ← e2]
  rw [hfold_append, hfold_append, hfold_cons, hfold_cons] at he'
  exact hstep_ne h (hfold_inj _ _ _ (hstep_in _ _).1 (hstep_in _ _).2 (hstep_in _ _).1 (hstep_in _ _).2 he')
theorem khash_set (k : Int) (zs : List Int) (i : Nat) (z v : Int) (hz : zs[i]? = some z) (h : ¬ v % 2147483647 = z % 2147483647) : ¬ khash k (zs.set i v) = khash k zs := by
  intro he
  have h1 := hfold_in [k] 11 (by omega) (by omega)
  have h2 := hfold_in (zs.set i v) _ h1.1 h1.2
  have h3 := hfold_in zs _ h1.1 h1.2
  exact hfold_set _ zs i z v hz h (hfold_inj [k] _ _ h2.1 h2.2 h3.1 h3.2 he)
theorem mod_moved {z a : Int} (h0 : 0 ≤ a) (h1 : a ≤ 255) : ¬ ((z + 1 + a) % 2147483647) % 2147483647 = z % 2147483647 := by omega
theorem crypt_byt {f : Int → Nat → Int} {zs : List Int} (h : ∀ z i, 0 ≤ f z i ∧ f z i ≤ 255) : Byt (crypt f zs) := fun y hy => by
  obtain ⟨i, hi, rfl⟩ := List.mem_iff_getElem.1 hy
  have := h (zs[i]'(by rw [crypt_len] at hi; exact hi)) i
  simpa [crypt] using this
theorem crypt_inv {f g : Int → Nat → Int} {zs : List Int} (hb : Byt zs) (h : ∀ z i, 0 ≤ z → z ≤ 255 → g (f z i) i = z) : crypt g (crypt f zs) = zs := by
  apply List.ext_getElem?
  intro i
  by_cases hi : i < zs.length
  · have h1 : zs[i]? = some zs[i] := List.getElem?_eq_getElem hi
    have hz := hb.at_ h1
    rw [crypt_at (crypt_at h1), h _ _ hz.1 hz.2, h1]
  · rw [List.getElem?_eq_none (by rw [crypt_len, crypt_len]; omega), List.getElem?_eq_none (by omega)]
theorem dec_enc {key : Int} {zs : List Int} (hb : Byt zs) : crypt (fDec key) (crypt (fEnc key) zs) = zs := crypt_inv hb fun z i h0 h1 => by unfold fDec fEnc; omega
theorem enc_dec {key : Int} {zs : List Int} (hb : Byt zs) : crypt (fEnc key) (crypt (fDec key) zs) = zs := crypt_inv hb fun z i h0 h1 => by unfold fDec fEnc; omega
theorem enc_byt (key : Int) (zs : List Int) : Byt (crypt (fEnc key) zs) := crypt_byt fun z i => by unfold fEnc; omega
theorem dec_byt (key : Int) (zs : List Int) : Byt (crypt (fDec key) zs) := crypt_byt fun z i => by unfold fDec; omega
end Go.Proofs.Ytkbenfnmigkclaa
