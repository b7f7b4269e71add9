/- impl.ParseInt and spec.ParseInt both answer 'pval s, pok s' (whether s is the numeral of a number from 0 to 1000000000000, and that number); so the law laws.FnExactParseInt returns true. Condition: the listed package variables read as their text lays them. -/
import Derived.Test.YthgcodbcafpmhaaDoorFmt
import Derived.Test.YthgcodbcafpmhaaDoorNum
import Derived.Test.YthgcodbcafpmhaaDoorShelfA
import Derived.BigCall
import Derived.Lib.AtoiTie
namespace Go.Proofs.YthgcodbcafpmhaaDoor
open Go.RowKit Go.Lib

/-! ### The model -/
theorem l1In_yes (a b c : Int) (w : World) (h : b ≤ a ∧ a ≤ c) : Calls Tryd.prog 25 #[.int .i64 a, .int .i64 b, .int .i64 c] w fun e w' => e = .returned (.bool true) ∧ w = w' := by
  obtain ⟨h1, h2⟩ := h
  go_enter Tryd.func25, Tryd.ntmps25
  go_wp2
  go_ret
  exact ⟨rfl, rfl⟩
theorem l1In_no (a b c : Int) (w : World) (h : ¬ (b ≤ a ∧ a ≤ c)) : Calls Tryd.prog 25 #[.int .i64 a, .int .i64 b, .int .i64 c] w fun e w' => e = .returned (.bool false) ∧ w = w' := by
  by_cases h1 : b ≤ a
  · have h2 : ¬ a ≤ c := by omega
    clear h
    go_enter Tryd.func25, Tryd.ntmps25
    go_wp2
    go_ret
    exact ⟨rfl, rfl⟩
  · clear h
    go_enter Tryd.func25, Tryd.ntmps25
    go_wp2
    go_ret
    exact ⟨rfl, rfl⟩
theorem ret_ib {a c : Int} {b d : Bool} (h1 : a = c) (h2 : b = d) : Ending.returned (.tuple #[.int .i64 a, .bool b]) = .returned (.tuple #[.int .i64 c, .bool d]) := by rw [h1, h2]
theorem take_snoc (s : ByteArray) (k : Nat) (h : k < s.size) : s.data.toList.take (k + 1) = s.data.toList.take k ++ [s[k]] := by
  rw [List.take_succ_eq_append_getElem (by simpa using h)]; rfl
set_option maxHeartbeats 400000 in
theorem specParse_len (s : ByteArray) (w : World) (hs : s.size ≤ 140737488351232) (h : ¬ (1 ≤ s.size ∧ s.size ≤ 13)) :
    Calls Tryd.prog 30 #[.string s] w fun e w' => e = .returned (.tuple #[.int .i64 (pval s.data.toList), .bool (pok s.data.toList)]) ∧ Below w.heap.size w w' := by
  have hp : pok s.data.toList = false := by
    cases e : pok s.data.toList with
    | false => rfl
    | true => exact absurd (pok_len e) (by simpa using h)
  have h' : ¬ ((1 : Int) ≤ (s.size : Int) ∧ (s.size : Int) ≤ 13) := by omega
  rw [pval_no hp, hp]
  clear hp h
  have H' := Lib.hid h'; clear h'
  go_enter Tryd.func30, Tryd.ntmps30
  go_wp2_with (go_at_call 25; refine (l1In_no _ _ _ _ H'.out).mono ?_; rintro e w' ⟨rfl, rfl⟩)
  go_ret2
  exact ⟨rfl, Below.refl _ _⟩
theorem str_eq {s : ByteArray} {l : List UInt8} (h : l = s.data.toList) : (⟨l.toArray⟩ : ByteArray) = s := by
  subst h
  simp
theorem str_bne {s : ByteArray} {l : List UInt8} (h : l ≠ s.data.toList) : ((⟨l.toArray⟩ : ByteArray).toList == s.toList) = false := by
  rw [ByteArray.toList_eq, ByteArray.toList_eq]
  simpa using h
/-- spec.FormatInt where the numeral is s, and where it is not. -/
theorem specFormat_is (n : Int) (s : ByteArray) (w : World) (h0 : -9223372036854775808 ≤ n) (h1 : n ≤ 9223372036854775807) (h : itoa n = s.data.toList) :
    Calls Tryd.prog 14 #[.int .i64 n] w fun e w' => e = .returned (.string s) ∧ Below w.heap.size w w' :=
  (specFormatInt n w h0 h1).mono fun _ _ ⟨he, hb⟩ => ⟨by rw [he, str_eq h], hb⟩
theorem specFormat_not (n : Int) (s : ByteArray) (w : World) (h0 : -9223372036854775808 ≤ n) (h1 : n ≤ 9223372036854775807) (h : itoa n ≠ s.data.toList) :
    Calls Tryd.prog 14 #[.int .i64 n] w fun e w' => ∃ t, e = .returned (.string t) ∧ (t.toList == s.toList) = false ∧ Below w.heap.size w w' :=
  (specFormatInt n w h0 h1).mono fun _ _ ⟨he, hb⟩ => ⟨_, he, str_bne h, hb⟩
set_option maxHeartbeats 1000000 in
theorem specParse_in (s : ByteArray) (w : World) (h1 : 1 ≤ s.size) (h2 : s.size ≤ 13) :
    Calls Tryd.prog 30 #[.string s] w fun e w' => e = .returned (.tuple #[.int .i64 (pval s.data.toList), .bool (pok s.data.toList)]) ∧ Below w.heap.size w w' := by
  go_enter Tryd.func30, Tryd.ntmps30
  go_wp2_with (go_at_call 25; refine (l1In_yes _ _ _ _ (by omega)).mono ?_; rintro e w' ⟨rfl, rfl⟩)
  go_loop [4, 5] (fun n i => ∃ k : Nat, k ≤ s.size ∧ i = .int .i64 k ∧ n = .int .i64 (dval (s.data.toList.take k)) ∧ (∀ c ∈ s.data.toList.take k, 48 ≤ c.toNat ∧ c.toNat ≤ 57)) (fun _ i => s.size - (RowKit.intOf i).toNat)
  case atStart => exact ⟨0, Nat.zero_le _, rfl, rfl, by simp⟩
  case round =>
    obtain ⟨k, hk, rfl, rfl, hd⟩ := hrel
    have hv := dval_small _ hd (by rw [List.length_take]; omega)
    by_cases hlt : k < s.size
    · have ht := take_snoc s k hlt
      have hsn := dval_snoc (s.data.toList.take k) s[k]
      by_cases hc : 48 ≤ (s[k].toNat : Int) ∧ (s[k].toNat : Int) ≤ 57
      · have HD : Hid (∀ c ∈ s.data.toList.take (k + 1), 48 ≤ c.toNat ∧ c.toNat ≤ 57) := by
          show ∀ c ∈ s.data.toList.take (k + 1), 48 ≤ c.toNat ∧ c.toNat ≤ 57
          rw [ht]
          intro c h
          rcases List.mem_append.1 h with h | h
          · exact hd c h
          · obtain rfl : c = s[k] := by simpa using h
            omega
        have HV : Hid (10 * (dval (s.data.toList.take k) : Int) + ((s[k].toNat : Int) - 48) = (dval (s.data.toList.take (k + 1)) : Int)) := by
          show 10 * (dval (s.data.toList.take k) : Int) + ((s[k].toNat : Int) - 48) = (dval (s.data.toList.take (k + 1)) : Int)
          rw [ht, hsn]; omega
        clear ht hsn hd
        go_wp2_with (go_at_call 25; refine (l1In_yes _ _ _ _ hc).mono ?_; rintro e w' ⟨rfl, rfl⟩)
        go_round
        case rel => exact ⟨k + 1, by omega, by go_num, by rw [HV.out], HD.out⟩
        case measure => simp [RowKit.intOf]; omega
      · have hp : pok s.data.toList = false := by
          cases e : pok s.data.toList with
          | false => rfl
          | true => exact absurd (pok_digit e s[k] (by rw [show s[k] = s.data.toList[k]'(by simpa using hlt) from rfl]; exact List.getElem_mem _)) (by omega)
        have HP := Lib.hid hp
        clear ht hsn hd hp
        have HC := Lib.hid hc; clear hc
        have hub : (s[k].toNat : Int) ≤ 255 := by have := s[k].toNat_lt; omega
        go_wp2_with (go_at_call 25; refine (l1In_no _ _ _ _ HC.out).mono ?_; rintro e w' ⟨rfl, rfl⟩)
        go_ret2
        exact ⟨ret_ib (by rw [pval_no HP.out]; rfl) HP.out.symm, Below.refl _ _⟩
    · have hkk : k = s.size := by omega
      have htk : s.data.toList.take k = s.data.toList := List.take_of_length_le (by simp; omega)
      rw [htk] at hv hd
      rw [htk]
      by_cases hm : dval s.data.toList ≤ 1000000000000
      · by_cases he : decDigits (dval s.data.toList) = s.data.toList
        · have hp : pok s.data.toList = true := pok_iff.2 ⟨hm, he⟩
          have HP := Lib.hid hp
          have HE := Lib.hid ((itoa_nonneg (dval s.data.toList)).trans he)
          clear hp he hd htk
          go_wp2_with (go_at_call 14; refine (specFormat_is _ s _ (by omega) (by omega) HE.out).mono ?_; rintro e w' ⟨rfl, hb⟩)
          go_ret2
          exact ⟨ret_ib (by rw [pval_yes HP.out]) HP.out.symm, hb⟩
        · have hp : pok s.data.toList = false := by
            cases e : pok s.data.toList with
            | false => rfl
            | true => exact absurd (pok_iff.1 e).2 he
          have HP := Lib.hid hp
          have HE := Lib.hid (show itoa (dval s.data.toList : Int) ≠ s.data.toList by rw [itoa_nonneg]; exact he)
          clear hp he hd htk
          go_wp2_with (go_at_call 14; refine (specFormat_not _ s _ (by omega) (by omega) HE.out).mono ?_; rintro e w' ⟨t, rfl, ht1, hb⟩)
          go_ret2
          exact ⟨ret_ib (by rw [pval_no HP.out]; rfl) HP.out.symm, hb⟩
      · have hp : pok s.data.toList = false := by
          cases e : pok s.data.toList with
          | false => rfl
          | true => exact absurd (pok_iff.1 e).1 hm
        have HP := Lib.hid hp
        clear hp hd htk
        go_wp2
        go_ret2
        exact ⟨ret_ib (by rw [pval_no HP.out]; rfl) HP.out.symm, Below.refl _ _⟩
theorem specParse (s : ByteArray) (w : World) (hs : s.size ≤ 140737488351232) :
    Calls Tryd.prog 30 #[.string s] w fun e w' => e = .returned (.tuple #[.int .i64 (pval s.data.toList), .bool (pok s.data.toList)]) ∧ Below w.heap.size w w' := by
  by_cases h : 1 ≤ s.size ∧ s.size ≤ 13
  · exact specParse_in s w h.1 h.2
  · exact specParse_len s w hs h

/-! ### The program -/
theorem inR_yes (a b c : Int) (w : World) (h : b ≤ a ∧ a ≤ c) : Calls Tryd.prog 50 #[.int .i64 a, .int .i64 b, .int .i64 c] w fun e w' => e = .returned (.bool true) ∧ w = w' := by
  obtain ⟨h1, h2⟩ := h
  go_enter Tryd.func50, Tryd.ntmps50
  go_wp2
  go_ret
  exact ⟨rfl, rfl⟩
theorem inR_no (a b c : Int) (w : World) (h : ¬ (b ≤ a ∧ a ≤ c)) : Calls Tryd.prog 50 #[.int .i64 a, .int .i64 b, .int .i64 c] w fun e w' => e = .returned (.bool false) ∧ w = w' := by
  by_cases h1 : b ≤ a
  · have h2 : ¬ a ≤ c := by omega
    clear h
    go_enter Tryd.func50, Tryd.ntmps50
    go_wp2
    go_ret
    exact ⟨rfl, rfl⟩
  · clear h
    go_enter Tryd.func50, Tryd.ntmps50
    go_wp2
    go_ret
    exact ⟨rfl, rfl⟩
theorem implFormat_is (n : Int) (s : ByteArray) (w : World) (h0 : -9223372036854775808 ≤ n) (h1 : n ≤ 9223372036854775807) (hT : Pow10 w) (h : itoa n = s.data.toList) :
    Calls Tryd.prog 18 #[.int .i64 n] w fun e w' => e = .returned (.string s) ∧ Below w.heap.size w w' :=
  (implFormatInt n w h0 h1 hT).mono fun _ _ ⟨he, hb⟩ => ⟨by rw [he, str_eq h], hb⟩
theorem implFormat_not (n : Int) (s : ByteArray) (w : World) (h0 : -9223372036854775808 ≤ n) (h1 : n ≤ 9223372036854775807) (hT : Pow10 w) (h : itoa n ≠ s.data.toList) :
    Calls Tryd.prog 18 #[.int .i64 n] w fun e w' => ∃ t, e = .returned (.string t) ∧ (t.toList == s.toList) = false ∧ Below w.heap.size w w' :=
  (implFormatInt n w h0 h1 hT).mono fun _ _ ⟨he, hb⟩ => ⟨_, he, str_bne h, hb⟩
/-- The variables that the conversion reads. -/
structure Vars (w : World) : Prop where
  pow : Pow10 w
  sx : ∃ (t : TypeId) (p : Value), w.var? Tryd.prog "strconv.ErrSyntax" = some #[.iface t p]
  rg : ∃ (t : TypeId) (p : Value), w.var? Tryd.prog "strconv.ErrRange" = some #[.iface t p]
theorem var_below {w w' : World} {n : String} {cs : Array Value} (h : w.var? Tryd.prog n = some cs) (hb : Below w.heap.size w w') : w'.var? Tryd.prog n = some cs := by
  unfold World.var? at *
  cases hg : Tryd.prog.globalNamed n with
  | none => simp [hg] at h
  | some g =>
    simp only [hg, Option.bind_some] at h ⊢
    have hlt : g < w.heap.size := by
      rcases Nat.lt_or_ge g w.heap.size with h' | h'
      · exact h'
      · rw [Array.getElem?_eq_none h'] at h; simp at h
    rw [hb.block g hlt]
    exact h
theorem Vars.below {w w' : World} (h : Vars w) (hb : Below w.heap.size w w') : Vars w' :=
  ⟨h.pow.below hb, let ⟨t, p, e⟩ := h.sx; ⟨t, p, var_below e hb⟩, let ⟨t, p, e⟩ := h.rg; ⟨t, p, var_below e hb⟩⟩
theorem atoi_ok (s : ByteArray) (w : World) (hs : s.size ≤ 140737488351232) (v : Int) (h : Lib.atoiAll s.data.toList = .ok v) :
    Calls Tryd.prog 58 #[.string s] w fun e w' => e = .returned (.tuple #[.int .i64 v, .nilIface]) ∧ Below w.heap.size w w' :=
  (Tryd.strconv_Atoi_ok s (by omega) v h w).mono fun _ _ ⟨he, hw⟩ => ⟨he, by
    rcases hw with rfl | ⟨t, rfl⟩
    · exact Below.refl _ _
    · exact Lib.bytesWorld_below _ _ _⟩
set_option maxHeartbeats 1000000 in
theorem implParse (s : ByteArray) (w : World) (hs : s.size ≤ 140737488351232) (hV : Vars w) :
    Calls Tryd.prog 52 #[.string s] w fun e w' => e = .returned (.tuple #[.int .i64 (pval s.data.toList), .bool (pok s.data.toList)]) ∧ Below w.heap.size w w' := by
  by_cases hok : ∃ v, Lib.atoiAll s.data.toList = .ok v
  · obtain ⟨v, hv⟩ := hok
    obtain ⟨b1, b2⟩ := Lib.atoiAll_bounds hv
    have HA := Lib.hid hv
    have HV := Lib.hid hV; clear hV
    by_cases hr : 0 ≤ v ∧ v ≤ 1000000000000
    · have hr1 := hr.1
      have hr2 := hr.2
      have hnn : itoa v = decDigits v.toNat := by
        rw [← itoa_nonneg, Int.toNat_of_nonneg hr1]
      by_cases he : decDigits v.toNat = s.data.toList
      · have hp := pok_of (by omega) he
        have HP := Lib.hid hp
        have HE := Lib.hid (hnn.trans he)
        clear hp he hnn hv
        go_enter Tryd.func52, Tryd.ntmps52
        go_wp2_with (first | (go_at_call 58; refine (atoi_ok s _ hs v HA.out).mono ?_; rintro e w1 ⟨rfl, hb1⟩) | (go_at_call 50; refine (inR_yes _ _ _ _ hr).mono ?_; rintro e w2 ⟨rfl, rfl⟩) | (go_at_call 18; refine (implFormat_is _ s _ (by omega) (by omega) (HV.out.below hb1).pow HE.out).mono ?_; rintro e w3 ⟨rfl, hb3⟩))
        go_ret2
        exact ⟨ret_ib (by rw [pval_yes HP.out.1, HP.out.2]; omega) HP.out.1.symm, hb1.trans (hb3.mono hb1.size)⟩
      · have hp : pok s.data.toList = false := by
          cases e : pok s.data.toList with
          | false => rfl
          | true =>
            have e1 := atoi_of_pok e
            rw [hv] at e1
            have e2 : v = (dval s.data.toList : Int) := by injection e1
            exact absurd (by rw [e2, Int.toNat_natCast]; exact (pok_iff.1 e).2) he
        have HP := Lib.hid hp
        have HE := Lib.hid (show itoa v ≠ s.data.toList by rw [hnn]; exact he)
        clear hp he hnn hv
        go_enter Tryd.func52, Tryd.ntmps52
        go_wp2_with (first | (go_at_call 58; refine (atoi_ok s _ hs v HA.out).mono ?_; rintro e w1 ⟨rfl, hb1⟩) | (go_at_call 50; refine (inR_yes _ _ _ _ hr).mono ?_; rintro e w2 ⟨rfl, rfl⟩) | (go_at_call 18; refine (implFormat_not _ s _ (by omega) (by omega) (HV.out.below hb1).pow HE.out).mono ?_; rintro e w3 ⟨t, rfl, ht, hb3⟩))
        go_ret2
        exact ⟨ret_ib (by rw [pval_no HP.out]; rfl) HP.out.symm, hb1.trans (hb3.mono hb1.size)⟩
    · have hp : pok s.data.toList = false := by
        cases e : pok s.data.toList with
        | false => rfl
        | true =>
          have e1 := atoi_of_pok e
          rw [hv] at e1
          have e2 : v = (dval s.data.toList : Int) := by injection e1
          have := (pok_iff.1 e).1
          omega
      have HP := Lib.hid hp
      have HR := Lib.hid hr
      clear hp hr hv
      go_enter Tryd.func52, Tryd.ntmps52
      go_wp2_with (first | (go_at_call 58; refine (atoi_ok s _ hs v HA.out).mono ?_; rintro e w1 ⟨rfl, hb1⟩) | (go_at_call 50; refine (inR_no _ _ _ _ HR.out).mono ?_; rintro e w2 ⟨rfl, rfl⟩))
      go_ret2
      exact ⟨ret_ib (by rw [pval_no HP.out]; rfl) HP.out.symm, hb1⟩
  · have hno : ∀ v, Lib.atoiAll s.data.toList ≠ .ok v := fun v h => hok ⟨v, h⟩
    have HP := Lib.hid (no_atoi hno)
    have HN := Lib.hid hno
    obtain ⟨t1, p1, e1⟩ := hV.sx
    obtain ⟨t2, p2, e2⟩ := hV.rg
    have H1 := Lib.hid e1
    have H2 := Lib.hid e2
    clear hno hok e1 e2 hV
    go_enter Tryd.func52, Tryd.ntmps52
    go_wp2_with (go_at_call 58; refine (Tryd.strconv_Atoi_no s (by omega) HN.out t1 t2 p1 p2 _ H1.out H2.out).mono ?_; rintro e w1 ⟨n, N, rfl, hb1⟩)
    go_ret2
    exact ⟨ret_ib (by rw [pval_no HP.out]; rfl) HP.out.symm, hb1⟩
end Go.Proofs.YthgcodbcafpmhaaDoor
