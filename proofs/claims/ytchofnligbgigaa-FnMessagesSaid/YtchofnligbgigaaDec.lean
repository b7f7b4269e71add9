/- ReadUvarint, the program's and the reference's: as 'readU'. -/
import Derived.Test.YtchofnligbgigaaEnc
import Derived.Test.YtchofnligbgigaaEncS
namespace Go.Proofs.Ytchofnligbgigaa
open Go.RowKit

theorem lag_ (a b : Int) (B : Nat) (w : World) (hc : w.cell? ⟨B, 0, none⟩ = some (.int .i64 b)) : Calls Try.prog 88 #[.int .i64 a, .slice (some ⟨B, 0, none⟩) 1 1] w fun e w' => e = .returned (.tuple #[.int .i64 (min a b), .int .i64 (max a b)]) ∧ w = w' := by
  go_enter Try.func88, Try.ntmps88
  go_wp2
  go_loop [6, 7, 14] (fun l g i => (l = .int .i64 a ∧ g = .int .i64 a ∧ i = .int .i64 0) ∨ (l = .int .i64 (min a b) ∧ g = .int .i64 (max a b) ∧ i = .int .i64 1)) (fun _ _ i => 1 - (intOf i).toNat)
  case atStart => exact Or.inl ⟨rfl, rfl, rfl⟩
  case round =>
    rcases hrel with ⟨rfl, rfl, rfl⟩ | ⟨rfl, rfl, rfl⟩
    · have e1 : b < a → min a b = b := fun h => by omega
      have e2 : ¬ b < a → min a b = a := fun h => by omega
      have e3 : a < b → max a b = b := fun h => by omega
      have e4 : ¬ a < b → max a b = a := fun h => by omega
      have E1 := Lib.hid e1
      have E2 := Lib.hid e2
      have E3 := Lib.hid e3
      have E4 := Lib.hid e4
      clear e1 e2 e3 e4
      by_cases h1 : b < a
      · have h2 : ¬ b > a := by omega
        go_wp2
        go_round
        case rel => exact Or.inr ⟨by rw [E1.out h1], by rw [E4.out (by omega)], rfl⟩
        case measure => simp [intOf]
      · by_cases h2 : b > a
        · go_wp2
          go_round
          case rel => exact Or.inr ⟨by rw [E2.out h1], by rw [E3.out h2], rfl⟩
          case measure => simp [intOf]
        · go_wp2
          go_round
          case rel => exact Or.inr ⟨by rw [E2.out h1], by rw [E4.out (by omega)], rfl⟩
          case measure => simp [intOf]
    · go_wp2
      go_ret2
      exact ⟨rfl, rfl⟩
theorem min_ (a b c : Int) (w : World) (h : c = min a b) : Calls Try.prog 85 #[.int .i64 a, .int .i64 b] w (GivesInt c w) := by
  have HC := Lib.hid h
  clear h
  go_enter Try.func85, Try.ntmps85
  go_wp2_with fail
  refine (lag_ a b w.heap.size (w.alloc (.cells #[.int .i64 b] 3)) (by simp [go_sem])).mono ?_
  rintro e w' ⟨rfl, rfl⟩
  go_wp2
  go_ret
  exact GivesInt.ret HC.out.symm ((Below.refl _ _).alloc (Nat.le_refl _) _)

/-- Midway in reading. -/
def Reading (zs : List Int) (off i acc : Nat) : Prop := acc < 128 ^ i ∧ rdU (zs.drop (off + i)) (6 - i) i acc = readU zs (off : Int)
theorem Reading.start {zs : List Int} {off : Nat} (h : off < zs.length) : Reading zs off 0 0 := ⟨by simp, by rw [readU_in h]; rfl⟩
theorem Reading.more {zs : List Int} {off i acc : Nat} {z : Int} (h : Reading zs off i acc) (hz : zs[off + i]? = some z) (hi : i < 6) (hb : 128 ≤ z) : Reading zs off (i + 1) (acc + z.toNat % 128 * 128 ^ i) := by
  obtain ⟨h1, h2⟩ := h
  have hl := (List.getElem?_eq_some_iff.1 hz).1
  have he := (List.getElem?_eq_some_iff.1 hz).2
  rw [List.drop_eq_getElem_cons hl, he, show 6 - i = (6 - (i + 1)) + 1 by omega, rdU_more _ _ _ _ (by omega)] at h2
  refine ⟨?_, h2⟩
  have : z.toNat % 128 * 128 ^ i ≤ 127 * 128 ^ i := Nat.mul_le_mul_right _ (by omega)
  rw [Nat.pow_succ]
  omega
theorem Reading.last {zs : List Int} {off i acc : Nat} {z : Int} (h : Reading zs off i acc) (hz : zs[off + i]? = some z) (hi : i < 6) (hb : z < 128) :
    readU zs (off : Int) = if (z = 0 ∧ 0 < i) ∨ 1000000000000 < acc + z.toNat * 128 ^ i then none else some (acc + z.toNat * 128 ^ i, i + 1) := by
  obtain ⟨h1, h2⟩ := h
  have hl := (List.getElem?_eq_some_iff.1 hz).1
  have he := (List.getElem?_eq_some_iff.1 hz).2
  rw [List.drop_eq_getElem_cons hl, he, show 6 - i = (6 - (i + 1)) + 1 by omega, rdU_last _ _ _ _ hb] at h2
  exact h2.symm
theorem Reading.done {zs : List Int} {off i acc : Nat} (h : Reading zs off i acc) (hi : i = 6 ∨ zs.length ≤ off + i) : readU zs (off : Int) = none := by
  obtain ⟨h1, h2⟩ := h
  rw [← h2]
  rcases hi with rfl | hi
  · exact rdU_none _ _ _
  · rw [List.drop_eq_nil_of_le hi, rdU_nil]
/-- What comes back. -/
def readV (zs : List Int) (off : Int) : Value :=
  match readU zs off with
  | none => .tuple #[.int .i64 0, .int .i64 0, .bool false]
  | some (v, k) => .tuple #[.int .i64 v, .int .i64 (off + k), .bool true]
theorem readV_no {zs : List Int} {off : Int} (h : readU zs off = none) : readV zs off = .tuple #[.int .i64 0, .int .i64 0, .bool false] := by rw [readV, h]
theorem readV_none {zs : List Int} {off : Int} (h : readU zs off = none) : Value.tuple #[.int .i64 0, .int .i64 0, .bool false] = readV zs off := by rw [readV, h]
theorem readV_some {zs : List Int} {off : Int} {v k : Nat} (h : readU zs off = some (v, k)) : readV zs off = .tuple #[.int .i64 v, .int .i64 (off + k), .bool true] := by rw [readV, h]
def GivesV (v : Value) (w : World) (e : Ending) (w' : World) : Prop := e = .returned v ∧ Below w.heap.size w w'
theorem GivesV.ret {u v : Value} {w w' : World} (h : u = v) (hb : Below w.heap.size w w') : GivesV v w (.returned u) w' := ⟨by rw [h], hb⟩
set_option maxRecDepth 100000 in
set_option maxHeartbeats 1000000 in
theorem implReadU (A : Option Addr) (n c : Nat) (zs : List Int) (off : Int) (w : World) (h : Rz .u8 w A n zs) (hby : Byt zs) (hn : n ≤ 549755813888) (ho0 : -9223372036854775808 ≤ off) (ho1 : off ≤ 9223372036854775807) :
    Calls Try.prog 74 #[.slice A n c, .int .i64 off] w (GivesV (readV zs off) w) := by
  have H := Lib.hid h
  have HBY := Lib.hid hby
  clear h hby
  by_cases hin : 0 ≤ off ∧ off ≤ (n : Int) - 1
  · obtain ⟨o, rfl⟩ : ∃ o : Nat, off = o := ⟨off.toNat, by omega⟩
    have hon : o < n := by omega
    have hst : Reading zs o 0 0 := Reading.start (by have := H.out.1; omega)
    have HST := Lib.hid hst
    clear hst
    obtain ⟨L, hL⟩ : ∃ L : Nat, (L : Int) = min ((n : Int) - (o : Int)) 6 := ⟨(min ((n : Int) - (o : Int)) 6).toNat, by omega⟩
    have hL1 : L ≤ 6 := by omega
    have hL2 : o + L ≤ n := by omega
    have hL3 : L = 6 ∨ n ≤ o + L := by omega
    have HL3 := Lib.hid hL3
    have HL := Lib.hid hL
    clear hL hL3
    go_enter Try.func74, Try.ntmps74
    go_wp2_with ((with_reducible refine (inR_true _ _ _ _ (by omega) (by omega)).mono ?_); rintro e w' ⟨rfl, rfl⟩)
    refine (min_ _ _ _ _ HL.out).mono ?_
    rintro e w1 ⟨rfl, hb⟩
    have HB := Lib.hid hb
    clear hb
    go_wp2_with fail
    go_loop [7, 21] (fun av iv => ∃ i acc : Nat, av = .int .i64 acc ∧ iv = .int .i64 i ∧ i ≤ L ∧ Reading zs o i acc) (fun _ iv => L - (intOf iv).toNat)
    case atStart => exact ⟨0, 0, rfl, rfl, Nat.zero_le _, HST.out⟩
    case round =>
      obtain ⟨i, acc, rfl, rfl, hiL, hR⟩ := hrel
      have HR := Lib.hid hR
      clear hR
      by_cases hlt : i < L
      · obtain ⟨b, off, z, rfl, hbw, hzi, hcell⟩ := (H.out.below HB.out).at_ (i := o + i) (by omega)
        have hz := HBY.out.at_ hzi
        obtain ⟨hz0, hz1⟩ := hz
        have HZ := Lib.hid hzi
        clear hzi
        obtain ⟨v, hv⟩ : ∃ v : Nat, v = acc + z.toNat % 128 * 128 ^ i := ⟨_, rfl⟩
        have hE : bits .or .i64 (acc : Int) (wrap64 (bits .and .i64 z 127 * 2 ^ (i * 7))) = (v : Int) := step_or acc i _ z (by omega) (by omega) HR.out.1 hz0 v hv
        have hvb : v ≤ 4398046511104 := by
          have h1 := HR.out.1
          have h2 : acc < 128 ^ 6 := Nat.lt_of_lt_of_le h1 (Nat.pow_le_pow_right (by omega) (by omega))
          have h3 : (128 : Nat) ^ i ≤ 128 ^ 5 := Nat.pow_le_pow_right (by omega) (by omega)
          have h4 : z.toNat % 128 * 128 ^ i ≤ 127 * 128 ^ 5 := Nat.mul_le_mul (by omega) h3
          have h5 : acc < 128 ^ i := h1
          omega
        have HV := Lib.hid hv
        clear hv
        by_cases hbig : 128 ≤ z
        · have hR2 : Reading zs o (i + 1) v := by rw [HV.out]; exact HR.out.more HZ.out (by omega) hbig
          have HR2 := Lib.hid hR2
          clear hR2
          go_wp2_with fail
          go_round
          case rel => exact ⟨i + 1, v, rfl, by go_num, by omega, HR2.out⟩
          case measure => simp [intOf]; omega
        · have hfin : readU zs (o : Int) = if (z = 0 ∧ 0 < i) ∨ 1000000000000 < v then none else some (v, i + 1) := by
            rw [HR.out.last HZ.out (by omega) (by omega), HV.out, show z.toNat % 128 = z.toNat by omega]
          have HF := Lib.hid hfin
          clear hfin
          by_cases hz00 : z = 0 ∧ 0 < i
          · have f0 : ((z : Int) == 0) = true := by simpa using hz00.1
            have f1 : z = 0 := hz00.1
            have HN : Hid (readU zs (o : Int) = none) := Lib.hid (by rw [HF.out, if_pos (Or.inl hz00)])
            have hi0 := hz00.2
            have hi0' : ¬ (i = 0) := by omega
            have F1 := Lib.hid f1
            clear hz00 f1
            go_wp2_with fail
            go_ret3
            exact GivesV.ret (readV_none HN.out) HB.out
          by_cases hvm : 1000000000000 < v
          · have HN : Hid (readU zs (o : Int) = none) := Lib.hid (by rw [HF.out, if_pos (Or.inr hvm)])
            by_cases hi0 : 0 < i
            · have hz1' : ¬ z = 0 := fun h => hz00 ⟨h, hi0⟩
              have f0 : ((z : Int) == 0) = false := by simpa using hz1'
              clear hz00
              go_wp2_with fail
              go_ret3
              exact GivesV.ret (readV_none HN.out) HB.out
            · clear hz00
              by_cases f1 : z = 0
              · have f0 : ((z : Int) == 0) = true := by simpa using f1
                have F1 := Lib.hid f1
                clear f1
                go_wp2_with fail
                go_ret3
                exact GivesV.ret (readV_none HN.out) HB.out
              · have f0 : ((z : Int) == 0) = false := by simpa using f1
                go_wp2_with fail
                go_ret3
                exact GivesV.ret (readV_none HN.out) HB.out
          · have HN : Hid (readU zs (o : Int) = some (v, i + 1)) := Lib.hid (by rw [HF.out, if_neg (by rintro (h | h); exact hz00 h; exact hvm h)])
            by_cases hi0 : 0 < i
            · have hz1' : ¬ z = 0 := fun h => hz00 ⟨h, hi0⟩
              have f0 : ((z : Int) == 0) = false := by simpa using hz1'
              clear hz00
              go_wp2_with fail
              go_ret3
              exact GivesV.ret (by rw [readV, HN.out]; simp [Int.add_assoc]) HB.out
            · clear hz00
              by_cases f1 : z = 0
              · have f0 : ((z : Int) == 0) = true := by simpa using f1
                have F1 := Lib.hid f1
                clear f1
                go_wp2_with fail
                go_ret3
                exact GivesV.ret (by rw [readV, HN.out]; simp [Int.add_assoc]) HB.out
              · have f0 : ((z : Int) == 0) = false := by simpa using f1
                go_wp2_with fail
                go_ret3
                exact GivesV.ret (by rw [readV, HN.out]; simp [Int.add_assoc]) HB.out
      · have hn : readU zs (o : Int) = none := HR.out.done (by have h1 := HL3.out; have h2 := H.out.1; omega)
        have HN := Lib.hid hn
        clear hn
        go_wp2_with fail
        go_ret3
        exact GivesV.ret (readV_none HN.out) HB.out
  · have hn : readU zs off = none := readU_out (by have h2 := H.out.1; omega)
    have HN := Lib.hid hn
    clear hn
    go_enter Try.func74, Try.ntmps74
    go_wp2_with ((with_reducible refine (inR_false _ _ _ _ hin).mono ?_); rintro e w' ⟨rfl, rfl⟩)
    go_ret3
    exact GivesV.ret (readV_none HN.out) (Below.refl _ _)
set_option maxRecDepth 100000 in
set_option maxHeartbeats 1000000 in
theorem specReadU (A : Option Addr) (n c : Nat) (zs : List Int) (off : Int) (w : World) (h : Rz .u8 w A n zs) (hby : Byt zs) (hn : n ≤ 549755813888) (ho0 : -9223372036854775808 ≤ off) (ho1 : off ≤ 9223372036854775807) :
    Calls Try.prog 83 #[.slice A n c, .int .i64 off] w (GivesV (readV zs off) w) := by
  have H := Lib.hid h
  have HBY := Lib.hid hby
  have HB := Lib.hid (Below.refl w.heap.size w)
  clear h hby
  by_cases hin : 0 ≤ off ∧ off ≤ (n : Int) - 1
  · obtain ⟨o, rfl⟩ : ∃ o : Nat, off = o := ⟨off.toNat, by omega⟩
    have hon : o < n := by omega
    have hst : Reading zs o 0 0 := Reading.start (by have := H.out.1; omega)
    have HST := Lib.hid hst
    clear hst
    go_enter Try.func83, Try.ntmps83
    go_wp2_with fail
    go_loop [7, 8] (fun av iv => ∃ i acc : Nat, av = .int .i64 acc ∧ iv = .int .i64 i ∧ i ≤ 6 ∧ Reading zs o i acc) (fun _ iv => 6 - (intOf iv).toNat)
    case atStart => exact ⟨0, 0, rfl, rfl, Nat.zero_le _, HST.out⟩
    case round =>
      obtain ⟨i, acc, rfl, rfl, hiL, hR⟩ := hrel
      have HR := Lib.hid hR
      clear hR
      by_cases hlt : i < 6 ∧ o + i < n
      · obtain ⟨hlt, hon2⟩ := hlt
        obtain ⟨b, off, z, rfl, hbw, hzi, hcell⟩ := H.out.at_ (i := o + i) hon2
        have hz := HBY.out.at_ hzi
        obtain ⟨hz0, hz1⟩ := hz
        have HZ := Lib.hid hzi
        clear hzi
        obtain ⟨v, hv⟩ : ∃ v : Nat, v = acc + z.toNat % 128 * 128 ^ i := ⟨_, rfl⟩
        have hE : bits .or .i64 (acc : Int) (wrap64 (bits .and .i64 z 127 * 2 ^ (7 * i))) = (v : Int) := step_or acc i _ z (by omega) (by omega) HR.out.1 hz0 v hv
        have hvb : v ≤ 4398046511104 := by
          have h1 := HR.out.1
          have h2 : acc < 128 ^ 6 := Nat.lt_of_lt_of_le h1 (Nat.pow_le_pow_right (by omega) (by omega))
          have h3 : (128 : Nat) ^ i ≤ 128 ^ 5 := Nat.pow_le_pow_right (by omega) (by omega)
          have h4 : z.toNat % 128 * 128 ^ i ≤ 127 * 128 ^ 5 := Nat.mul_le_mul (by omega) h3
          have h5 : acc < 128 ^ i := h1
          omega
        have HV := Lib.hid hv
        clear hv
        by_cases hbig : 128 ≤ z
        · have hR2 : Reading zs o (i + 1) v := by rw [HV.out]; exact HR.out.more HZ.out (by omega) hbig
          have HR2 := Lib.hid hR2
          clear hR2
          go_wp2_with fail
          go_round
          case rel => exact ⟨i + 1, v, rfl, by go_num, by omega, HR2.out⟩
          case measure => simp [intOf]; omega
        · have hfin : readU zs (o : Int) = if (z = 0 ∧ 0 < i) ∨ 1000000000000 < v then none else some (v, i + 1) := by
            rw [HR.out.last HZ.out (by omega) (by omega), HV.out, show z.toNat % 128 = z.toNat by omega]
          have HF := Lib.hid hfin
          clear hfin
          by_cases hz00 : z = 0 ∧ 0 < i
          · have f0 : ((z : Int) == 0) = true := by simpa using hz00.1
            have f1 : z = 0 := hz00.1
            have HN : Hid (readU zs (o : Int) = none) := Lib.hid (by rw [HF.out, if_pos (Or.inl hz00)])
            have hi0 := hz00.2
            have hi0' : ¬ (i = 0) := by omega
            have F1 := Lib.hid f1
            clear hz00 f1
            go_wp2_with fail
            go_ret3
            exact GivesV.ret (readV_none HN.out) HB.out
          by_cases hvm : 1000000000000 < v
          · have HN : Hid (readU zs (o : Int) = none) := Lib.hid (by rw [HF.out, if_pos (Or.inr hvm)])
            by_cases hi0 : 0 < i
            · have hz1' : ¬ z = 0 := fun h => hz00 ⟨h, hi0⟩
              have f0 : ((z : Int) == 0) = false := by simpa using hz1'
              clear hz00
              go_wp2_with fail
              go_ret3
              exact GivesV.ret (readV_none HN.out) HB.out
            · clear hz00
              by_cases f1 : z = 0
              · have f0 : ((z : Int) == 0) = true := by simpa using f1
                have F1 := Lib.hid f1
                clear f1
                go_wp2_with fail
                go_ret3
                exact GivesV.ret (readV_none HN.out) HB.out
              · have f0 : ((z : Int) == 0) = false := by simpa using f1
                go_wp2_with fail
                go_ret3
                exact GivesV.ret (readV_none HN.out) HB.out
          · have HN : Hid (readU zs (o : Int) = some (v, i + 1)) := Lib.hid (by rw [HF.out, if_neg (by rintro (h | h); exact hz00 h; exact hvm h)])
            by_cases hi0 : 0 < i
            · have hz1' : ¬ z = 0 := fun h => hz00 ⟨h, hi0⟩
              have f0 : ((z : Int) == 0) = false := by simpa using hz1'
              clear hz00
              go_wp2_with fail
              go_ret3
              exact GivesV.ret (by rw [readV, HN.out]; simp [Int.add_assoc]) HB.out
            · clear hz00
              by_cases f1 : z = 0
              · have f0 : ((z : Int) == 0) = true := by simpa using f1
                have F1 := Lib.hid f1
                clear f1
                go_wp2_with fail
                go_ret3
                exact GivesV.ret (by rw [readV, HN.out]; simp [Int.add_assoc]) HB.out
              · have f0 : ((z : Int) == 0) = false := by simpa using f1
                go_wp2_with fail
                go_ret3
                exact GivesV.ret (by rw [readV, HN.out]; simp [Int.add_assoc]) HB.out
      · have hn : readU zs (o : Int) = none := HR.out.done (by have h2 := H.out.1; omega)
        have HN := Lib.hid hn
        clear hn
        by_cases hi6 : i < 6
        · have hge : n ≤ o + i := by omega
          clear hlt
          go_wp2_with fail
          go_ret3
          exact GivesV.ret (readV_none HN.out) HB.out
        · clear hlt
          go_wp2_with fail
          go_ret3
          exact GivesV.ret (readV_none HN.out) HB.out
  · have hn : readU zs off = none := readU_out (by have h2 := H.out.1; omega)
    have HN := Lib.hid hn
    clear hn
    by_cases hneg : off < 0
    · clear hin
      go_enter Try.func83, Try.ntmps83
      go_wp2_with fail
      go_loop [7, 8] (fun av iv => av = .int .i64 0 ∧ iv = .int .i64 0) (fun _ iv => 6 - (intOf iv).toNat)
      case atStart => exact ⟨rfl, rfl⟩
      case round =>
        obtain ⟨rfl, rfl⟩ := hrel
        go_wp2_with fail
        go_ret3
        exact GivesV.ret (readV_none HN.out) HB.out
    · have hge : (n : Int) ≤ off := by omega
      clear hin
      go_enter Try.func83, Try.ntmps83
      go_wp2_with fail
      go_loop [7, 8] (fun av iv => av = .int .i64 0 ∧ iv = .int .i64 0) (fun _ iv => 6 - (intOf iv).toNat)
      case atStart => exact ⟨rfl, rfl⟩
      case round =>
        obtain ⟨rfl, rfl⟩ := hrel
        go_wp2_with fail
        go_ret3
        exact GivesV.ret (readV_none HN.out) HB.out
theorem implReadV (A : Option Addr) (n c : Nat) (zs : List Int) (off : Int) (w : World) (V : Value) (hV : readV zs off = V) (h : Rz .u8 w A n zs) (hby : Byt zs) (hn : n ≤ 549755813888) (ho0 : -9223372036854775808 ≤ off) (ho1 : off ≤ 9223372036854775807) :
    Calls Try.prog 74 #[.slice A n c, .int .i64 off] w (GivesV V w) := by
  subst hV
  exact implReadU A n c zs off w h hby hn ho0 ho1
theorem specReadV (A : Option Addr) (n c : Nat) (zs : List Int) (off : Int) (w : World) (V : Value) (hV : readV zs off = V) (h : Rz .u8 w A n zs) (hby : Byt zs) (hn : n ≤ 549755813888) (ho0 : -9223372036854775808 ≤ off) (ho1 : off ≤ 9223372036854775807) :
    Calls Try.prog 83 #[.slice A n c, .int .i64 off] w (GivesV V w) := by
  subst hV
  exact specReadU A n c zs off w h hby hn ho0 ho1
end Go.Proofs.Ytchofnligbgigaa
