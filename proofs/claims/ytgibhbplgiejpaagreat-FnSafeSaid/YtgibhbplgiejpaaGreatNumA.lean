/- spec.FormatInt returns the decimal numeral of its argument.
   impl.FormatInt and spec.FormatInt both return the decimal numeral; so the law laws.FnExactFormatInt returns true. Condition: the table internal/strconv.uint64pow10 reads as its text lays it.
   impl.ParseInt and spec.ParseInt both answer 'pval s, pok s' (whether s is the numeral of a number from 0 to 1000000000000, and that number); so the law laws.FnExactParseInt returns true. Condition: the listed package variables read as their text lays them. -/
import Derived.Test.YtgibhbplgiejpaaGreatProg
import Derived.WalkKit
import Derived.LoopTactic
import Derived.Outline
import Derived.Laws.IdiomStrings
import Derived.Laws.Concat
import Derived.Lib.ItoaLen
import Derived.Lib.Hide
import Derived.Below
import Derived.Lib.AppendIntMem
import Derived.Test.YtgibhbplgiejpaaGreatTxtA
import Derived.BigCall
import Derived.Lib.AtoiTie
namespace Go.Proofs.YtgibhbplgiejpaaGreat
open Go.RowKit Go.Lib
/-- The byte of a digit. -/
def dgt (u : Nat) : UInt8 := UInt8.ofNat (48 + u)
def rest (u : Nat) (t : List UInt8) : List UInt8 := if u = 0 then t else decDigits u ++ t
theorem rest_zero (t : List UInt8) : rest 0 t = t := rfl
theorem rest_step (u : Nat) (t : List UInt8) (h : u ≠ 0) : rest (u / 10) (dgt (u % 10) :: t) = rest u t := by
  unfold rest dgt
  rw [if_neg h]
  by_cases h1 : u < 10
  · rw [if_pos (by omega), decDigits_one h1]
    have : u % 10 = u := by omega
    rw [this]; rfl
  · rw [if_neg (by omega)]
    conv => rhs; rw [decDigits, dif_neg h1]
    simp
theorem ret_str {a b : ByteArray} (h : a = b) : Ending.returned (.string a) = .returned (.string b) := by rw [h]
theorem itoa_zero : itoa 0 = [48] := by unfold itoa; rw [if_neg (by omega)]; exact decDigits_one (by omega)
set_option maxRecDepth 100000 in
set_option maxHeartbeats 400000 in
theorem specFormatInt_zero (w : World) : Calls Tryz.prog 132 #[.int .i64 0] w fun e w' => e = .returned (.string ⟨(itoa 0).toArray⟩) ∧ Below w.heap.size w w' := by
  go_enter Tryz.func132, Tryz.ntmps132
  go_wp2
  go_ret
  exact ⟨ret_str (by rw [itoa_zero]), Below.refl _ _⟩
theorem byte_one (u : Nat) (h : u < 10) : ((dgt u).toNat : Int) = 48 + (u : Int) := by
  unfold dgt
  have e : (UInt8.ofNat (48 + u)).toNat = 48 + u := by simp; omega
  rw [e]; omega
/-- 'string([]byte{c})', c a digit, in the world behind the block's laying. -/
theorem string_digit (w : World) (u : Nat) (h : u < 10) (c : Int) (hc : c = 48 + (u : Int)) :
    (convert 22 9 (.slice (some ⟨w.heap.size, 0, none⟩) 1 1)).run Tryz.prog (w.alloc (.cells #[.int .u8 c] 5)) = .ok (.string ⟨#[dgt u]⟩) (w.alloc (.cells #[.int .u8 c] 5)) := by
  have k := run_convert_bytes_back (P := Tryz.prog) (w.alloc (.cells #[.int .u8 c] 5)) 22 9 5 ⟨w.heap.size, 0, none⟩ 1 [dgt u] Tryz.underlying22 Tryz.underlying5 Tryz.underlying9 (fun j hj => by
    obtain rfl : j = 0 := by simpa using hj
    have e := byte_one u h
    simp only [List.getElem_cons_zero, e, ← hc]
    simp [go_sem, Addr.add])
  simpa using k
theorem cons_str (c : UInt8) (t : List UInt8) : (ByteArray.mk #[c] ++ ByteArray.mk t.toArray) = ByteArray.mk (c :: t).toArray := by
  apply ByteArray.ext
  simp [ByteArray.data_append]
theorem val_str {a b : ByteArray} (h : a = b) : Value.string a = .string b := by rw [h]
theorem rest_len {u m : Nat} {t : List UInt8} (h : rest u t = decDigits m) (hm : m < 18446744073709551616) : t.length ≤ 20 := by
  have e := congrArg List.length h
  rw [decDigits_length] at e
  have b := nDigits_le20 m hm
  unfold rest at e
  split at e
  · omega
  · simp at e; omega
set_option maxRecDepth 100000 in
set_option maxHeartbeats 400000 in
theorem specFormatInt_pos (n : Int) (w : World) (h0 : 0 < n) (h1 : n ≤ 9223372036854775807) : Calls Tryz.prog 132 #[.int .i64 n] w fun e w' => e = .returned (.string ⟨(itoa n).toArray⟩) ∧ Below w.heap.size w w' := by
  have hne : ((n : Int) == 0) = false := by simpa using (by omega : n ≠ 0)
  go_enter Tryz.func132, Tryz.ntmps132
  go_wp2
  go_loopw [3, 4] (fun s x wr => ∃ (u : Nat) (t : List UInt8), s = .string ⟨t.toArray⟩ ∧ x = .int .i64 u ∧ (u : Int) ≤ n ∧ rest u t = decDigits n.toNat ∧ Below w.heap.size w wr) (fun _ x _ => (RowKit.intOf x).toNat)
  case atStart => exact ⟨n.toNat, [], rfl, by rw [Int.toNat_of_nonneg (by omega)], by omega, by unfold rest; rw [if_neg (by omega)]; simp, Below.refl _ _⟩
  case round =>
    obtain ⟨u, t, rfl, rfl, hu, hr, hb⟩ := hrel
    by_cases hz : u = 0
    · subst hz
      rw [rest_zero] at hr
      have HR := Lib.hid hr; clear hr
      go_wp2
      go_ret
      exact ⟨ret_str (by rw [HR.out]; unfold itoa; rw [if_neg (by omega)]), hb⟩
    · have hl := rest_len hr (by omega)
      have hs := rest_step u t hz
      have HR := Lib.hid (hs.trans hr); clear hr hs
      have hcv := string_digit wr (u % 10) (by omega) (48 + (u : Int) % 10) (by omega)
      go_wp2
      go_roundw
      case rel => exact ⟨u / 10, _, val_str (cons_str _ _), by go_num, by omega, HR.out, hb.alloc (by have := hb.size; omega) _⟩
      case measure => simp [RowKit.intOf]; omega
theorem tmod_neg (y : Int) (h : y ≤ 0) : y.tmod 10 = -((y.natAbs % 10 : Nat) : Int) := by
  obtain ⟨u, rfl⟩ : ∃ u : Nat, y = -(u : Int) := ⟨y.natAbs, by omega⟩
  rw [Int.neg_tmod]
  have : ((u : Int)).tmod 10 = ((u % 10 : Nat) : Int) := by rw [Int.tmod_eq_emod_of_nonneg (by omega)]; omega
  rw [this]; simp
theorem tdiv_neg (y : Int) (h : y ≤ 0) : (y.tdiv 10).natAbs = y.natAbs / 10 ∧ y.tdiv 10 = -((y.natAbs / 10 : Nat) : Int) := by
  obtain ⟨u, rfl⟩ : ∃ u : Nat, y = -(u : Int) := ⟨y.natAbs, by omega⟩
  rw [Int.neg_tdiv]
  have : ((u : Int)).tdiv 10 = ((u / 10 : Nat) : Int) := by rw [Int.tdiv_eq_ediv_of_nonneg (by omega)]; omega
  rw [this]; omega
set_option maxRecDepth 100000 in
set_option maxHeartbeats 400000 in
theorem specFormatInt_neg (n : Int) (w : World) (h0 : n < 0) (h1 : -9223372036854775808 ≤ n) : Calls Tryz.prog 132 #[.int .i64 n] w fun e w' => e = .returned (.string ⟨(itoa n).toArray⟩) ∧ Below w.heap.size w w' := by
  have hne : ((n : Int) == 0) = false := by simpa using (by omega : n ≠ 0)
  go_enter Tryz.func132, Tryz.ntmps132
  go_wp2
  go_loopw [3, 4] (fun s x wr => ∃ (y : Int) (t : List UInt8), s = .string ⟨t.toArray⟩ ∧ x = .int .i64 y ∧ y ≤ 0 ∧ n ≤ y ∧ rest y.natAbs t = decDigits n.natAbs ∧ Below w.heap.size w wr) (fun _ x _ => (RowKit.intOf x).natAbs)
  case atStart => exact ⟨n, [], rfl, rfl, by omega, by omega, by unfold rest; rw [if_neg (by omega)]; simp, Below.refl _ _⟩
  case round =>
    obtain ⟨y, t, rfl, rfl, hy, hyn, hr, hb⟩ := hrel
    by_cases hz : y = 0
    · subst hz
      rw [Int.natAbs_zero, rest_zero] at hr
      have hl : t.length ≤ 20 := rest_len (u := 0) hr (by omega)
      have HR := Lib.hid hr; clear hr
      go_wp2
      go_ret
      exact ⟨ret_str (by rw [cons_str, HR.out]; unfold itoa; rw [if_pos (by omega)]), hb⟩
    · have hl := rest_len hr (by omega)
      have hs := rest_step y.natAbs t (by omega)
      have HR := Lib.hid (hs.trans hr); clear hr hs
      have e10 := tmod_neg y hy
      have e11 := tdiv_neg y hy
      have hb1 : 0 ≤ y.natAbs % 10 ∧ y.natAbs % 10 < 10 := by omega
      have hm1 : -10 < y.tmod 10 := by omega
      have hm2 : y.tmod 10 ≤ 0 := by omega
      have hq1 : y < y.tdiv 10 := by omega
      have hq2 : y.tdiv 10 ≤ 0 := by omega
      by_cases hd : y.tmod 10 < 0
      · have hcv := string_digit wr (y.natAbs % 10) (by omega) (48 + -(y.tmod 10)) (by omega)
        have E10 := Lib.hid e10; clear e10
        have E11 := Lib.hid e11; clear e11
        go_wp2
        go_roundw
        case rel => exact ⟨y.tdiv 10, _, val_str (cons_str _ _), rfl, hq2, by omega, by rw [E11.out.1]; exact HR.out, hb.alloc (by have := hb.size; omega) _⟩
        case measure => show (y.tdiv 10).natAbs < y.natAbs; omega
      · have hcv := string_digit wr (y.natAbs % 10) (by omega) (48 + (y.tmod 10)) (by omega)
        have E10 := Lib.hid e10; clear e10
        have E11 := Lib.hid e11; clear e11
        go_wp2
        go_roundw
        case rel => exact ⟨y.tdiv 10, _, val_str (cons_str _ _), rfl, hq2, by omega, by rw [E11.out.1]; exact HR.out, hb.alloc (by have := hb.size; omega) _⟩
        case measure => show (y.tdiv 10).natAbs < y.natAbs; omega
end Go.Proofs.YtgibhbplgiejpaaGreat
namespace Go.Proofs.YtgibhbplgiejpaaGreat
open Go.RowKit Go.Lib
theorem fmt_wf_bounds {a : Int} (h : (Lit.int .i64 a).wf = true) : -9223372036854775808 ≤ a ∧ a ≤ 9223372036854775807 := by
  have e1 : IntKind.i64.min = -9223372036854775808 := rfl
  have e2 : IntKind.i64.max = 9223372036854775807 := rfl
  simp [Lit.wf, e1, e2] at h
  omega
theorem specFormatInt (n : Int) (w : World) (h0 : -9223372036854775808 ≤ n) (h1 : n ≤ 9223372036854775807) : Calls Tryz.prog 132 #[.int .i64 n] w fun e w' => e = .returned (.string ⟨(itoa n).toArray⟩) ∧ Below w.heap.size w w' := by
  rcases Int.lt_trichotomy n 0 with h | h | h
  · exact specFormatInt_neg n w h h0
  · subst h; exact specFormatInt_zero w
  · exact specFormatInt_pos n w h h1
abbrev Pow10 (w : World) : Prop := Lib.TabIs Tryz.prog w "internal/strconv.uint64pow10" .u64 Lib.pow10Tab
theorem pow10Tab_lit : Lib.pow10Tab = [1, 10, 100, 1000, 10000, 100000, 1000000, 10000000, 100000000, 1000000000, 10000000000, 100000000000, 1000000000000, 10000000000000, 100000000000000, 1000000000000000, 10000000000000000, 100000000000000000, 1000000000000000000, 10000000000000000000] := by decide +kernel
theorem Pow10.of {w : World} (h : Lib.TabIs Tryz.prog w "internal/strconv.uint64pow10" .u64 [1, 10, 100, 1000, 10000, 100000, 1000000, 10000000, 100000000, 1000000000, 10000000000, 100000000000, 1000000000000, 10000000000000, 100000000000000, 1000000000000000, 10000000000000000, 100000000000000000, 1000000000000000000, 10000000000000000000]) : Pow10 w := by
  unfold Pow10
  rw [pow10Tab_lit]
  exact h
theorem Pow10.below {w w' : World} (h : Pow10 w) (hb : Below w.heap.size w w') : Pow10 w' := (Lib.tabBelow_of_tabIs h) w' hb
end Go.Proofs.YtgibhbplgiejpaaGreat
namespace Go.Proofs.YtgibhbplgiejpaaGreat
open Go.RowKit Go.Lib

/-! ### The model -/
theorem l1In_yes (a b c : Int) (w : World) (h : b ≤ a ∧ a ≤ c) : Calls Tryz.prog 35 #[.int .i64 a, .int .i64 b, .int .i64 c] w fun e w' => e = .returned (.bool true) ∧ w = w' := by
  obtain ⟨h1, h2⟩ := h
  go_enter Tryz.func35, Tryz.ntmps35
  go_wp2
  go_ret
  exact ⟨rfl, rfl⟩
theorem l1In_no (a b c : Int) (w : World) (h : ¬ (b ≤ a ∧ a ≤ c)) : Calls Tryz.prog 35 #[.int .i64 a, .int .i64 b, .int .i64 c] w fun e w' => e = .returned (.bool false) ∧ w = w' := by
  by_cases h1 : b ≤ a
  · have h2 : ¬ a ≤ c := by omega
    clear h
    go_enter Tryz.func35, Tryz.ntmps35
    go_wp2
    go_ret
    exact ⟨rfl, rfl⟩
  · clear h
    go_enter Tryz.func35, Tryz.ntmps35
    go_wp2
    go_ret
    exact ⟨rfl, rfl⟩
theorem ret_ib {a c : Int} {b d : Bool} (h1 : a = c) (h2 : b = d) : Ending.returned (.tuple #[.int .i64 a, .bool b]) = .returned (.tuple #[.int .i64 c, .bool d]) := by rw [h1, h2]
theorem take_snoc (s : ByteArray) (k : Nat) (h : k < s.size) : s.data.toList.take (k + 1) = s.data.toList.take k ++ [s[k]] := by
  rw [List.take_succ_eq_append_getElem (by simpa using h)]; rfl
set_option maxHeartbeats 400000 in
theorem specParse_len (s : ByteArray) (w : World) (hs : s.size ≤ 140737488351232) (h : ¬ (1 ≤ s.size ∧ s.size ≤ 13)) :
    Calls Tryz.prog 131 #[.string s] w fun e w' => e = .returned (.tuple #[.int .i64 (pval s.data.toList), .bool (pok s.data.toList)]) ∧ Below w.heap.size w w' := by
  have hp : pok s.data.toList = false := by
    cases e : pok s.data.toList with
    | false => rfl
    | true => exact absurd (pok_len e) (by simpa using h)
  have h' : ¬ ((1 : Int) ≤ (s.size : Int) ∧ (s.size : Int) ≤ 13) := by omega
  rw [pval_no hp, hp]
  clear hp h
  have H' := Lib.hid h'; clear h'
  go_enter Tryz.func131, Tryz.ntmps131
  go_wp2_with (go_at_call 35; refine (l1In_no _ _ _ _ H'.out).mono ?_; rintro e w' ⟨rfl, rfl⟩)
  go_ret2
  exact ⟨rfl, Below.refl _ _⟩
theorem str_eq {s : ByteArray} {l : List UInt8} (h : l = s.data.toList) : (⟨l.toArray⟩ : ByteArray) = s := by
  subst h
  simp
theorem str_bne {s : ByteArray} {l : List UInt8} (h : l ≠ s.data.toList) : ((⟨l.toArray⟩ : ByteArray).toList == s.toList) = false := by
  rw [ByteArray.toList_eq, ByteArray.toList_eq]
  simpa using h
/-- spec.FormatInt where the numeral is s, and where it is not. -/
theorem specFormat_is (n : Int) (s : ByteArray) (w : World) (h0 : -9223372036854775808 ≤ n) (h1 : n ≤ 9223372036854775807) (h : itoa n = s.data.toList) :
    Calls Tryz.prog 132 #[.int .i64 n] w fun e w' => e = .returned (.string s) ∧ Below w.heap.size w w' :=
  (specFormatInt n w h0 h1).mono fun _ _ ⟨he, hb⟩ => ⟨by rw [he, str_eq h], hb⟩
theorem specFormat_not (n : Int) (s : ByteArray) (w : World) (h0 : -9223372036854775808 ≤ n) (h1 : n ≤ 9223372036854775807) (h : itoa n ≠ s.data.toList) :
    Calls Tryz.prog 132 #[.int .i64 n] w fun e w' => ∃ t, e = .returned (.string t) ∧ (t.toList == s.toList) = false ∧ Below w.heap.size w w' :=
  (specFormatInt n w h0 h1).mono fun _ _ ⟨he, hb⟩ => ⟨_, he, str_bne h, hb⟩
set_option maxHeartbeats 1000000 in
theorem specParse_in (s : ByteArray) (w : World) (h1 : 1 ≤ s.size) (h2 : s.size ≤ 13) :
    Calls Tryz.prog 131 #[.string s] w fun e w' => e = .returned (.tuple #[.int .i64 (pval s.data.toList), .bool (pok s.data.toList)]) ∧ Below w.heap.size w w' := by
  go_enter Tryz.func131, Tryz.ntmps131
  go_wp2_with (go_at_call 35; refine (l1In_yes _ _ _ _ (by omega)).mono ?_; rintro e w' ⟨rfl, rfl⟩)
  go_loop [4, 5] (fun n i => ∃ k : Nat, k ≤ s.size ∧ i = .int .i64 k ∧ n = .int .i64 (dval (s.data.toList.take k)) ∧ (∀ c ∈ s.data.toList.take k, 48 ≤ c.toNat ∧ c.toNat ≤ 57)) (fun _ i => s.size - (RowKit.intOf i).toNat)
  case atStart => exact ⟨0, Nat.zero_le _, rfl, rfl, by simp⟩
  case round =>
    obtain ⟨k, hk, rfl, rfl, hd⟩ := hrel
    have hv := dval_small _ hd (by rw [List.length_take]; omega)
    by_cases hlt : k < s.size
    · have ht := take_snoc s k hlt
      have hsn := dval_snoc (s.data.toList.take k) s[k]
      by_cases hc : 48 ≤ (s[k].toNat : Int) ∧ (s[k].toNat : Int) ≤ 57
      · have HD : Hid (∀ c ∈ s.data.toList.take (k + 1), 48 ≤ c.toNat ∧ c.toNat ≤ 57) := by
          show ∀ c ∈ s.data.toList.take (k + 1), 48 ≤ c.toNat ∧ c.toNat ≤ 57
          rw [ht]
          intro c h
          rcases List.mem_append.1 h with h | h
          · exact hd c h
          · obtain rfl : c = s[k] := by simpa using h
            omega
        have HV : Hid (10 * (dval (s.data.toList.take k) : Int) + ((s[k].toNat : Int) - 48) = (dval (s.data.toList.take (k + 1)) : Int)) := by
          show 10 * (dval (s.data.toList.take k) : Int) + ((s[k].toNat : Int) - 48) = (dval (s.data.toList.take (k + 1)) : Int)
          rw [ht, hsn]; omega
        clear ht hsn hd
        go_wp2_with (go_at_call 35; refine (l1In_yes _ _ _ _ hc).mono ?_; rintro e w' ⟨rfl, rfl⟩)
        go_round
        case rel => exact ⟨k + 1, by omega, by go_num, by rw [HV.out], HD.out⟩
        case measure => simp [RowKit.intOf]; omega
      · have hp : pok s.data.toList = false := by
          cases e : pok s.data.toList with
          | false => rfl
          | true => exact absurd (pok_digit e s[k] (by rw [show s[k] = s.data.toList[k]'(by simpa using hlt) from rfl]; exact List.getElem_mem _)) (by omega)
        have HP := Lib.hid hp
        clear ht hsn hd hp
        have HC := Lib.hid hc; clear hc
        have hub : (s[k].toNat : Int) ≤ 255 := by have := s[k].toNat_lt; omega
        go_wp2_with (go_at_call 35; refine (l1In_no _ _ _ _ HC.out).mono ?_; rintro e w' ⟨rfl, rfl⟩)
        go_ret2
        exact ⟨ret_ib (by rw [pval_no HP.out]; rfl) HP.out.symm, Below.refl _ _⟩
    · have hkk : k = s.size := by omega
      have htk : s.data.toList.take k = s.data.toList := List.take_of_length_le (by simp; omega)
      rw [htk] at hv hd
      rw [htk]
      by_cases hm : dval s.data.toList ≤ 1000000000000
      · by_cases he : decDigits (dval s.data.toList) = s.data.toList
        · have hp : pok s.data.toList = true := pok_iff.2 ⟨hm, he⟩
          have HP := Lib.hid hp
          have HE := Lib.hid ((itoa_nonneg (dval s.data.toList)).trans he)
          clear hp he hd htk
          go_wp2_with (go_at_call 132; refine (specFormat_is _ s _ (by omega) (by omega) HE.out).mono ?_; rintro e w' ⟨rfl, hb⟩)
          go_ret2
          exact ⟨ret_ib (by rw [pval_yes HP.out]) HP.out.symm, hb⟩
        · have hp : pok s.data.toList = false := by
            cases e : pok s.data.toList with
            | false => rfl
            | true => exact absurd (pok_iff.1 e).2 he
          have HP := Lib.hid hp
          have HE := Lib.hid (show itoa (dval s.data.toList : Int) ≠ s.data.toList by rw [itoa_nonneg]; exact he)
          clear hp he hd htk
          go_wp2_with (go_at_call 132; refine (specFormat_not _ s _ (by omega) (by omega) HE.out).mono ?_; rintro e w' ⟨t, rfl, ht1, hb⟩)
          go_ret2
          exact ⟨ret_ib (by rw [pval_no HP.out]; rfl) HP.out.symm, hb⟩
      · have hp : pok s.data.toList = false := by
          cases e : pok s.data.toList with
          | false => rfl
          | true => exact absurd (pok_iff.1 e).1 hm
        have HP := Lib.hid hp
        clear hp hd htk
        go_wp2
        go_ret2
        exact ⟨ret_ib (by rw [pval_no HP.out]; rfl) HP.out.symm, Below.refl _ _⟩
theorem specParse (s : ByteArray) (w : World) (hs : s.size ≤ 140737488351232) :
    Calls Tryz.prog 131 #[.string s] w fun e w' => e = .returned (.tuple #[.int .i64 (pval s.data.toList), .bool (pok s.data.toList)]) ∧ Below w.heap.size w w' := by
  by_cases h : 1 ≤ s.size ∧ s.size ≤ 13
  · exact specParse_in s w h.1 h.2
  · exact specParse_len s w hs h

/-! ### The program -/
theorem inR_yes (a b c : Int) (w : World) (h : b ≤ a ∧ a ≤ c) : Calls Tryz.prog 75 #[.int .i64 a, .int .i64 b, .int .i64 c] w fun e w' => e = .returned (.bool true) ∧ w = w' := by
  obtain ⟨h1, h2⟩ := h
  go_enter Tryz.func75, Tryz.ntmps75
  go_wp2
  go_ret
  exact ⟨rfl, rfl⟩
theorem inR_no (a b c : Int) (w : World) (h : ¬ (b ≤ a ∧ a ≤ c)) : Calls Tryz.prog 75 #[.int .i64 a, .int .i64 b, .int .i64 c] w fun e w' => e = .returned (.bool false) ∧ w = w' := by
  by_cases h1 : b ≤ a
  · have h2 : ¬ a ≤ c := by omega
    clear h
    go_enter Tryz.func75, Tryz.ntmps75
    go_wp2
    go_ret
    exact ⟨rfl, rfl⟩
  · clear h
    go_enter Tryz.func75, Tryz.ntmps75
    go_wp2
    go_ret
    exact ⟨rfl, rfl⟩
/-- The variables that the conversion reads. -/
structure Vars (w : World) : Prop where
  pow : Pow10 w
  sx : ∃ (t : TypeId) (p : Value), w.var? Tryz.prog "strconv.ErrSyntax" = some #[.iface t p]
  rg : ∃ (t : TypeId) (p : Value), w.var? Tryz.prog "strconv.ErrRange" = some #[.iface t p]
theorem var_below {w w' : World} {n : String} {cs : Array Value} (h : w.var? Tryz.prog n = some cs) (hb : Below w.heap.size w w') : w'.var? Tryz.prog n = some cs := by
  unfold World.var? at *
  cases hg : Tryz.prog.globalNamed n with
  | none => simp [hg] at h
  | some g =>
    simp only [hg, Option.bind_some] at h ⊢
    have hlt : g < w.heap.size := by
      rcases Nat.lt_or_ge g w.heap.size with h' | h'
      · exact h'
      · rw [Array.getElem?_eq_none h'] at h; simp at h
    rw [hb.block g hlt]
    exact h
theorem Vars.below {w w' : World} (h : Vars w) (hb : Below w.heap.size w w') : Vars w' :=
  ⟨h.pow.below hb, let ⟨t, p, e⟩ := h.sx; ⟨t, p, var_below e hb⟩, let ⟨t, p, e⟩ := h.rg; ⟨t, p, var_below e hb⟩⟩
end Go.Proofs.YtgibhbplgiejpaaGreat
