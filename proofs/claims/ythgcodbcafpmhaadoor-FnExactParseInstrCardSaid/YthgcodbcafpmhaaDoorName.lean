/- IsName, both sides. -/
import Derived.Test.YthgcodbcafpmhaaDoorIns
namespace Go.Proofs.YthgcodbcafpmhaaDoor
open Go.RowKit
def Low (s : ByteArray) (k : Nat) : Prop := ∀ j, (hj : j < s.size) → j < k → isLow (s[j]'hj) = true
theorem Low.next {s : ByteArray} {k : Nat} (h : Low s k) (hk : k < s.size) (h1 : 97 ≤ (s[k]'hk).toNat) (h2 : (s[k]'hk).toNat ≤ 122) : Low s (k + 1) := fun j hj hjk => by
  by_cases e : j = k
  · subst e
    exact low_yes h1 h2
  · exact h j hj (by omega)
theorem Low.done {s : ByteArray} {k : Nat} (h : Low s k) (hk : s.size ≤ k) : inR s.size 1 6 = isName s := isName_yes fun j hj => h j hj (by omega)
set_option maxHeartbeats 1000000 in
theorem specName (s : ByteArray) (w : World) (hs : s.size ≤ 140737488351232) : Calls Tryd.prog 27 #[.string s] w (SameB (isName s) w) := by
  go_enter Tryd.func27, Tryd.ntmps27
  go_wp2
  go_loop [3] (fun i => ∃ k : Nat, k ≤ s.size ∧ i = .int .i64 k ∧ Low s k) (fun i => s.size - (intOf i).toNat)
  case atStart => exact ⟨0, Nat.zero_le _, rfl, fun j hj h => by omega⟩
  case round =>
    obtain ⟨k, hk, rfl, hl⟩ := hrel
    have HL := Lib.hid hl
    clear hl
    by_cases hlt : k < s.size
    · by_cases h1 : 97 ≤ (s[k]'hlt).toNat
      · by_cases h2 : (s[k]'hlt).toNat ≤ 122
        · have HN := Lib.hid (HL.out.next hlt h1 h2)
          go_wp2
          go_round
          case rel => exact ⟨k + 1, by omega, by go_num, HN.out⟩
          case measure => simp [intOf]; omega
        · have HN := Lib.hid (isName_no hlt (fun h => h2 h.2))
          go_wp2
          go_ret
          exact SameB.ret HN.out
      · have HN := Lib.hid (isName_no hlt (fun h => h1 h.1))
        go_wp2
        go_ret
        exact SameB.ret HN.out
    · have HN := Lib.hid (HL.out.done (by omega))
      go_wp2_with fail
      refine (specInR s.size 1 6 _).mono ?_
      rintro e w' ⟨rfl, rfl⟩
      go_wp2_with fail
      go_ret
      exact SameB.ret HN.out
theorem GivesBool.iter {b c : Bool} {w : World} {s : ByteArray} {pos : Nat} (h : b = c) : GivesBool c w (.returned (.bool b)) (w.iter s pos) := GivesBool.of h ((Below.refl _ _).alloc (Nat.le_refl _) _)
theorem dec_ascii {s : ByteArray} {pos : Nat} (h : pos < s.size) (ha : (s[pos]'h).toNat < 128) : (Utf8.decode s pos).1 = (s[pos]'h).toNat ∧ (Utf8.decode s pos).2 = 1 := by
  rw [decode_ascii s pos h ha]
  exact ⟨rfl, rfl⟩
set_option maxHeartbeats 1000000 in
theorem implName (s : ByteArray) (w : World) : Calls Tryd.prog 56 #[.string s] w (GivesBool (isName s) w) := by
  by_cases hr : inR s.size 1 6 = true
  · go_enter Tryd.func56, Tryd.ntmps56
    go_wp2_with fail
    refine (implInR s.size 1 6 _).mono ?_
    rintro e w' ⟨rfl, rfl⟩
    have HR := Lib.hid hr
    go_wp2_with fail
    clear hr
    go_loopw [] (fun w' => ∃ pos : Nat, w' = w.iter s pos ∧ pos ≤ s.size ∧ Low s pos) (fun w' => s.size - w'.iterPos w.heap.size)
    case atStart => exact ⟨0, rfl, Nat.zero_le _, fun j hj h => by omega⟩
    case round =>
      obtain ⟨pos, rfl, hk, hl⟩ := hrel
      have HL := Lib.hid hl
      clear hl
      by_cases hlt : pos < s.size
      · have hnx : ∀ ty, (Instr.next (.pointer (some ⟨w.heap.size, 0, none⟩)) true ty).run Tryd.prog (w.iter s pos) = _ := fun ty => run_next_any w s pos ty hlt
        by_cases ha : (s[pos]'hlt).toNat < 128
        · obtain ⟨e1, e2⟩ := dec_ascii hlt ha
          rw [e1, e2] at hnx
          clear e1 e2
          by_cases h1 : 97 ≤ (s[pos]'hlt).toNat
          · by_cases h2 : (s[pos]'hlt).toNat ≤ 122
            · have HN := Lib.hid (HL.out.next hlt h1 h2)
              go_wp2
              go_roundw
              case rel => exact ⟨pos + 1, rfl, by omega, HN.out⟩
              case measure => simp; omega
            · have HN := Lib.hid (isName_no hlt (fun h => h2 h.2))
              go_wp2
              go_ret
              exact GivesBool.iter HN.out
          · have HN := Lib.hid (isName_no hlt (fun h => h1 h.1))
            go_wp2
            go_ret
            exact GivesBool.iter HN.out
        · have HN := Lib.hid (isName_no hlt (fun h => ha (by omega)))
          have hd := (decode_high s pos hlt (by omega)).1
          generalize (Utf8.decode s pos).1 = r at *
          generalize (Utf8.decode s pos).2 = wd at *
          go_wp2
          go_ret
          exact GivesBool.iter HN.out
      · have HN := Lib.hid (HL.out.done (by omega))
        have hnx : ∀ ty, (Instr.next (.pointer (some ⟨w.heap.size, 0, none⟩)) true ty).run Tryd.prog (w.iter s pos) = _ := fun ty => run_next_end w s pos ty hlt
        go_wp2
        go_ret
        exact GivesBool.iter (HR.out.symm.trans HN.out)
  · have hr' : inR s.size 1 6 = false := by simpa using hr
    have HN := Lib.hid (isName_len hr')
    clear hr
    go_enter Tryd.func56, Tryd.ntmps56
    go_wp2_with fail
    refine (implInR s.size 1 6 _).mono ?_
    rintro e w' ⟨rfl, rfl⟩
    go_wp2_with fail
    go_ret
    exact GivesBool.of HN.out (Below.refl _ _)
end Go.Proofs.YthgcodbcafpmhaaDoor
