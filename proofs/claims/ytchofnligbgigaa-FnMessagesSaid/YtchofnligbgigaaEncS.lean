/- The reference's encoders, and both EncodeInts. -/
import Derived.Test.YtchofnligbgigaaEnc
import Derived.Test.YtchofnligbgigaaBase
namespace Go.Proofs.Ytchofnligbgigaa
open Go.RowKit
theorem l1In_true (n a b : Int) (w : World) (h1 : a ≤ n) (h2 : n ≤ b) : Calls Try.prog 46 #[.int .i64 n, .int .i64 a, .int .i64 b] w fun e w' => e = .returned (.bool true) ∧ w = w' := by
  go_enter Try.func46, Try.ntmps46
  go_wp2
  go_ret
  exact ⟨rfl, rfl⟩
theorem l1In_false (n a b : Int) (w : World) (h1 : ¬ (a ≤ n ∧ n ≤ b)) : Calls Try.prog 46 #[.int .i64 n, .int .i64 a, .int .i64 b] w fun e w' => e = .returned (.bool false) ∧ w = w' := by
  by_cases h : a ≤ n
  · have h2 : ¬ n ≤ b := fun h' => h1 ⟨h, h'⟩
    clear h1
    go_enter Try.func46, Try.ntmps46
    go_wp2
    go_ret
    exact ⟨rfl, rfl⟩
  · clear h1
    go_enter Try.func46, Try.ntmps46
    go_wp2
    go_ret
    exact ⟨rfl, rfl⟩
set_option maxRecDepth 100000 in
set_option maxHeartbeats 1000000 in
/-- spec.AppendUvarint: a copy, and the number's bytes. -/
theorem specAppU (A : Option Addr) (n c : Nat) (zs : List Int) (x : Int) (w : World) (h : Rz .u8 w A n zs) (hn : n ≤ 549755813888) (hx0 : -9223372036854775808 ≤ x) (hx1 : x ≤ 9223372036854775807) :
    Calls Try.prog 82 #[.slice A n c, .int .i64 x] w (Fresh .u8 5 (zs ++ encU x) w) := by
  obtain ⟨i0, hi, hz0, hz1, hz2⟩ := info_parts infoB
  have H := Lib.hid h
  have hzn : zs.length ≤ 549755813888 := by have := h.1; omega
  clear h
  by_cases hin : 0 ≤ x ∧ x ≤ 1000000000000
  · obtain ⟨u, rfl⟩ : ∃ u : Nat, x = u := ⟨x.toNat, by omega⟩
    have hu : u ≤ 1000000000000 := by omega
    go_enter Try.func82, Try.ntmps82
    go_wp2_with (first
      | ((with_reducible refine (l1In_true _ _ _ _ (by omega) (by omega)).mono ?_); rintro e w' ⟨rfl, rfl⟩)
      | (at_builtin; refine wpList_append_rz _ rfl _ _ 22 rfl .u8 5 i0 0 1 Try.underlying22 hi hz0 hz1 hz2 w.heap.size (w.heap.size + 1) _ 0 0 [] rfl (Own.none_ .u8 5 w) A n c zs rfl (H.out.alloc _) (by unfold maxLen; omega) (by omega) (by simp) ?_; intro A1 c1 w1 hO1 hS1; have hO1' := Lib.hid hO1; have hS1' := Lib.hid hS1; clear hO1 hS1))
    have hP : Putting w.heap.size zs u w u A1 n c1 w1 := by
      have hO := hO1'.out
      have hS := hS1'.out
      refine ⟨[], ?_, rfl, hS.below ((Below.refl _ _).alloc (Nat.le_refl _) _) (Nat.le_refl _) (by simp)⟩
      simpa using hO
    have hP' := Lib.hid hP
    clear hP hO1' hS1'
    go_loopw [5, 1] (fun sv nv wr => ∃ (A : Option Addr) (n c m : Nat), sv = .slice A n c ∧ nv = .int .i64 m ∧ m ≤ 1000000000000 ∧ Putting w.heap.size zs u w m A n c wr) (fun _ nv _ => (intOf nv).toNat)
    case atStart => exact ⟨_, _, _, u, by simp, rfl, hu, hP'.out⟩
    case round =>
      obtain ⟨A, n, c, m, rfl, rfl, hm, hPr⟩ := hrel
      have hle := hPr.len hu
      have HP := Lib.hid hPr
      obtain ⟨pre, hO, hpm, hb⟩ := hPr
      have hl2 : w.heap.size ≤ wr.heap.size := hb.size
      have HB := Lib.hid hb
      have HO := Lib.hid hO
      have HM := Lib.hid hpm
      clear hb hO hP' hpm
      by_cases hlt : m < 128
      · go_wp2_with (at_builtin; refine wpList_append_rz _ rfl _ _ 22 rfl .u8 5 i0 0 1 Try.underlying22 hi hz0 hz1 hz2 w.heap.size wr.heap.size A n c _ rfl (HO.out.alloc _) _ 1 1 [_] rfl (Rz.one _ _ _ _) (by unfold maxLen; omega) (by omega) (by simp; omega) ?_; intro A' c' w' hO' hS)
        go_ret
        refine (Grew.ret hO' ?_ (HB.out.trans (((Below.refl _ _).alloc hl2 _).trans (hS.low (by simp; omega)))) : Grew _ _ _ _ w _ _).fresh (Below.refl _ _)
        rw [encU_in hu, ← HM.out, putU_small hlt, List.append_assoc]
      · go_wp2_with (at_builtin; refine wpList_append_rz _ rfl _ _ 22 rfl .u8 5 i0 0 1 Try.underlying22 hi hz0 hz1 hz2 w.heap.size wr.heap.size A n c _ rfl (HO.out.alloc _) _ 1 1 [_] rfl (Rz.one _ _ _ _) (by unfold maxLen; omega) (by omega) (by simp; omega) ?_; intro A' c' w' hO' hS)
        have hN := HP.out.next hlt (grp m) hO' hS hl2 ⟨pre, rfl, HM.out⟩
        clear hO' hS
        go_roundw
        case rel => exact ⟨A', n + 1, c', m / 128, rfl, by go_num, by omega, hN⟩
        case measure => simp [intOf]; omega
  · go_enter Try.func82, Try.ntmps82
    go_wp2_with (first
      | ((with_reducible refine (l1In_false _ _ _ _ hin).mono ?_); rintro e w' ⟨rfl, rfl⟩)
      | (at_builtin; refine wpList_append_rz _ rfl _ _ 22 rfl .u8 5 i0 0 1 Try.underlying22 hi hz0 hz1 hz2 w.heap.size (w.heap.size + 1) _ 0 0 [] rfl (Own.none_ .u8 5 w) A n c zs rfl (H.out.alloc _) (by unfold maxLen; omega) (by omega) (by simp) ?_; intro A1 c1 w1 hO1 hS1; have hO1' := Lib.hid hO1; have hS1' := Lib.hid hS1; clear hO1 hS1))
    have hO : Own .u8 5 w.heap.size w1.heap.size w1 A1 n c1 (zs ++ encU x) := by
      have hO := hO1'.out
      rw [encU_out hin]
      simpa using hO
    clear hO1'
    go_ret
    exact Fresh.ret hO (hS1'.out.below ((Below.refl _ _).alloc (Nat.le_refl _) _) (Nat.le_refl _) (by simp))
set_option maxHeartbeats 1000000 in
/-- spec.AppendBytes. -/
theorem specAppB (A : Option Addr) (n c : Nat) (zs : List Int) (A' : Option Addr) (n' c' : Nat) (zs' : List Int) (w : World) (h : Rz .u8 w A n zs) (h' : Rz .u8 w A' n' zs') (hn : n ≤ 549755813888) (hn' : n' ≤ 549755813888) :
    Calls Try.prog 62 #[.slice A n c, .slice A' n' c'] w (Fresh .u8 5 (zs ++ encU (n' : Int) ++ zs') w) := by
  obtain ⟨i0, hi, hz0, hz1, hz2⟩ := info_parts infoB
  have H := Lib.hid h
  have H' := Lib.hid h'
  clear h h'
  go_enter Try.func62, Try.ntmps62
  go_wp2_with fail
  refine (specAppU A n c zs (n' : Int) _ H.out (by omega) (by omega) (by omega)).mono ?_
  rintro e w2 ⟨A2, n2, c2, rfl, hO2, hb2⟩
  have hn2 : n2 ≤ 549755813894 := by
    have h1 := hO2.1; have h2 := H.out.1; have h3 := encU_len (n' : Int)
    simp only [List.length_append] at h1; omega
  have hs2 : w.heap.size ≤ w2.heap.size := hb2.size
  have HO2 := Lib.hid hO2
  have HB2 := Lib.hid hb2
  have HR := Lib.hid (H'.out.below HB2.out)
  clear hO2 hb2
  go_wp2_with (at_builtin; refine wpList_append_rz _ rfl _ _ 22 rfl .u8 5 i0 0 1 Try.underlying22 hi hz0 hz1 hz2 w.heap.size w2.heap.size A2 n2 c2 _ rfl HO2.out A' n' c' zs' rfl HR.out (by unfold maxLen; omega) (by omega) hs2 ?_; intro A3 c3 w3 hO3 hS3)
  have HO3 := Lib.hid hO3
  have HS3 := Lib.hid hS3
  clear hO3 hS3
  go_ret
  exact Fresh.ret (HO3.out) (HB2.out.trans (HS3.out.low hs2))

theorem specAppB' (A : Option Addr) (n c : Nat) (zs : List Int) (A' : Option Addr) (n' c' : Nat) (zs' : List Int) (w : World) (h : Rz .u8 w A n zs) (h' : Rz .u8 w A' n' zs') (hn : n ≤ 549755813888) (hn' : n' ≤ 549755813888) :
    Calls Try.prog 62 #[.slice A n c, .slice A' n' c'] w (Fresh .u8 5 (zs ++ encU (zs'.length : Int) ++ zs') w) := by
  rw [h'.1]
  exact specAppB A n c zs A' n' c' zs' w h h' hn hn'
theorem implAppB' (A : Option Addr) (n c : Nat) (zs : List Int) (A' : Option Addr) (n' c' : Nat) (zs' : List Int) (w : World) (h : Rz .u8 w A n zs) (h' : Rz .u8 w A' n' zs') (hn : n ≤ 549755813888) (hn' : n' ≤ 549755813888) :
    Calls Try.prog 38 #[.slice A n c, .slice A' n' c'] w (Fresh .u8 5 (zs ++ encU (zs'.length : Int) ++ zs') w) := by
  rw [h'.1]
  exact implAppB A n c zs A' n' c' zs' w h h' hn hn'
/-- The bytes of a list of numbers. -/
def encL : List Int → List Int
  | [] => []
  | x :: l => encU x ++ encL l
theorem encL_append (a b : List Int) : encL (a ++ b) = encL a ++ encL b := by
  induction a with
  | nil => rfl
  | cons x a ih => show encU x ++ encL (a ++ b) = _; rw [ih, ← List.append_assoc]; rfl
theorem encL_len (a : List Int) : (encL a).length ≤ 6 * a.length := by
  induction a with
  | nil => simp [encL]
  | cons x a ih =>
    have := encU_len x
    simp only [encL, List.length_append, List.length_cons]
    omega
theorem encL_snoc (zs : List Int) (i : Nat) (z : Int) (h : zs[i]? = some z) : encL (zs.take (i + 1)) = encL (zs.take i) ++ encU z := by
  have hi := (List.getElem?_eq_some_iff.1 h).1
  have hz := (List.getElem?_eq_some_iff.1 h).2
  rw [List.take_succ_eq_append_getElem hi, encL_append, hz]
  show _ ++ (encU z ++ []) = _
  rw [List.append_nil]
theorem encL_byt (a : List Int) : Byt (encL a) := by
  induction a with
  | nil => exact Byt.nil
  | cons x a ih => exact (encU_byt x).append ih
/-- The first i are laid. -/
def Laying (w : World) (zs : List Int) (i : Nat) (A : Option Addr) (n c : Nat) (wr : World) : Prop :=
  Own .u8 5 w.heap.size wr.heap.size wr A n c (encL (zs.take i)) ∧ Below w.heap.size w wr
theorem Laying.len {w wr : World} {zs : List Int} {i n c : Nat} {A : Option Addr} (h : Laying w zs i A n c wr) : n ≤ 6 * zs.length := by
  have h1 := h.1.1
  have h2 := encL_len (zs.take i)
  have h3 : (zs.take i).length ≤ zs.length := by rw [List.length_take]; omega
  omega
theorem Laying.ret {w wr : World} {zs : List Int} {i n c : Nat} {A : Option Addr} (h : Laying w zs i A n c wr) (hi : zs.length = i) : Fresh .u8 5 (encL zs) w (.returned (.slice A n c)) wr := by
  have h1 := h.1
  rw [List.take_of_length_le (by omega)] at h1
  exact Fresh.ret h1 h.2
theorem Laying.start (w : World) (zs : List Int) : Laying w zs 0 (some ⟨w.heap.size, 0, none⟩) 0 0 (w.alloc (.cells #[] 5)) := by
  refine ⟨(Own.none_ .u8 5 w).more (by simp) (Nat.le_refl _), (Below.refl _ _).alloc (Nat.le_refl _) _⟩
set_option maxRecDepth 100000 in
set_option maxHeartbeats 1000000 in
/-- impl.EncodeInts. -/
theorem implEncL (A : Option Addr) (n c : Nat) (zs : List Int) (w : World) (h : Rz .i64 w A n zs) (hb : ∀ z ∈ zs, -9223372036854775808 ≤ z ∧ z ≤ 9223372036854775807) (hn : n ≤ 68719476736) :
    Calls Try.prog 39 #[.slice A n c] w (Fresh .u8 5 (encL zs) w) := by
  have H := Lib.hid h
  have HBD := Lib.hid hb
  have hzl : zs.length ≤ 68719476736 := by have := h.1; omega
  clear h hb
  go_enter Try.func39, Try.ntmps39
  go_wp2_with fail
  go_loopw [3, 9] (fun sv iv wr => ∃ (A' : Option Addr) (n' c' i : Nat), sv = .slice A' n' c' ∧ iv = .int .i64 i ∧ i ≤ n ∧ Laying w zs i A' n' c' wr) (fun _ iv _ => n - (intOf iv).toNat)
  case atStart => exact ⟨_, _, _, 0, rfl, rfl, Nat.zero_le _, Laying.start w zs⟩
  case round =>
    obtain ⟨A', n', c', i, rfl, rfl, hin, hL⟩ := hrel
    have hle := hL.len
    by_cases hlt : i < n
    · obtain ⟨b, off, z, rfl, hbw, hzi, hcell⟩ := (H.out.below hL.2).at_ hlt
      have hz := HBD.out z (List.mem_of_getElem? hzi)
      obtain ⟨hz1, hz2⟩ := hz
      have hs := hL.2.size
      have HL := Lib.hid hL
      have HLO := Lib.hid hL.1
      have HLR := Lib.hid hL.1.rz
      have HZ := Lib.hid hzi
      clear hL hzi
      go_wp2_with ((with_reducible refine (putUvarint w.heap.size wr.heap.size A' n' c' (encL (zs.take i)) z _ HLO.out (by omega) hs hz1 hz2).mono ?_); rintro e w2 ⟨A2, n2, c2, rfl, hO2, hb2⟩; have HO2 := Lib.hid hO2; have HB2 := Lib.hid hb2; clear hO2 hb2)
      go_roundw
      case rel => exact ⟨A2, n2, c2, i + 1, rfl, by go_num, by omega, by rw [encL_snoc zs i z HZ.out]; exact HO2.out, HL.out.2.trans HB2.out⟩
      case measure => simp [intOf]; omega
    · have HL := Lib.hid hL
      clear hL
      go_wp2_with fail
      go_ret
      exact HL.out.ret (by have := H.out.1; omega)
set_option maxRecDepth 100000 in
set_option maxHeartbeats 1000000 in
/-- spec.EncodeInts. -/
theorem specEncL (A : Option Addr) (n c : Nat) (zs : List Int) (w : World) (h : Rz .i64 w A n zs) (hb : ∀ z ∈ zs, -9223372036854775808 ≤ z ∧ z ≤ 9223372036854775807) (hn : n ≤ 68719476736) :
    Calls Try.prog 63 #[.slice A n c] w (Fresh .u8 5 (encL zs) w) := by
  have H := Lib.hid h
  have HBD := Lib.hid hb
  have hzl : zs.length ≤ 68719476736 := by have := h.1; omega
  clear h hb
  go_enter Try.func63, Try.ntmps63
  go_wp2_with fail
  go_loopw [3, 4] (fun sv iv wr => ∃ (A' : Option Addr) (n' c' i : Nat), sv = .slice A' n' c' ∧ iv = .int .i64 i ∧ i ≤ n ∧ Laying w zs i A' n' c' wr) (fun _ iv _ => n - (intOf iv).toNat)
  case atStart => exact ⟨_, _, _, 0, rfl, rfl, Nat.zero_le _, Laying.start w zs⟩
  case round =>
    obtain ⟨A', n', c', i, rfl, rfl, hin, hL⟩ := hrel
    have hle := hL.len
    by_cases hlt : i < n
    · obtain ⟨b, off, z, rfl, hbw, hzi, hcell⟩ := (H.out.below hL.2).at_ hlt
      have hz := HBD.out z (List.mem_of_getElem? hzi)
      obtain ⟨hz1, hz2⟩ := hz
      have hs := hL.2.size
      have HL := Lib.hid hL
      have HLO := Lib.hid hL.1
      have HLR := Lib.hid hL.1.rz
      have HZ := Lib.hid hzi
      clear hL hzi
      go_wp2_with ((with_reducible refine (specAppU A' n' c' (encL (zs.take i)) z _ HLR.out (by omega) hz1 hz2).mono ?_); rintro e w2 ⟨A2, n2, c2, rfl, hO2, hb2⟩; have HO2 := Lib.hid hO2; have HB2 := Lib.hid hb2; clear hO2 hb2)
      go_roundw
      case rel => exact ⟨A2, n2, c2, i + 1, rfl, by go_num, by omega, by rw [encL_snoc zs i z HZ.out]; exact HO2.out.less hs, HL.out.2.trans (HB2.out.mono hs)⟩
      case measure => simp [intOf]; omega
    · have HL := Lib.hid hL
      clear hL
      go_wp2_with fail
      go_ret
      exact HL.out.ret (by have := H.out.1; omega)
end Go.Proofs.Ytchofnligbgigaa
