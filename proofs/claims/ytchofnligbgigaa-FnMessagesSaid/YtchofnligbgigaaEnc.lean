/- The encoders: copyBytes, putUvarint, AppendUvarint, AppendBytes, EncodeInts, each as the list that comes back. -/
import Derived.Test.YtchofnligbgigaaBase
import Derived.Test.YtchofnligbgigaaBits
namespace Go.Proofs.Ytchofnligbgigaa
open Go.RowKit

set_option maxHeartbeats 1000000 in
theorem copyBytes (A : Option Addr) (n c : Nat) (zs : List Int) (w : World) (h : Rz .u8 w A n zs) (hn : n ≤ 1099511627776) : Calls Try.prog 73 #[.slice A n c] w (Fresh .u8 5 zs w) := by
  obtain ⟨i0, hi, hz0, hz1, hz2⟩ := info_parts infoB
  have H := Lib.hid h
  clear h
  go_enter Try.func73, Try.ntmps73
  go_wp2_with (at_builtin; refine wpList_append_rz _ rfl _ _ 22 rfl .u8 5 i0 0 1 Try.underlying22 hi hz0 hz1 hz2 w.heap.size (w.heap.size + 1) _ 0 0 [] rfl (Own.none_ .u8 5 w) A n c zs rfl (H.out.alloc _) (by unfold maxLen; omega) (by omega) (by simp) ?_; intro A' c' w' hO hS)
  have hO' : Own .u8 5 w.heap.size w'.heap.size w' A' n c' zs := by simpa using hO
  clear hO
  go_ret
  exact Fresh.ret hO' (hS.below ((Below.refl _ _).alloc (Nat.le_refl _) _) (Nat.le_refl _) (by simp))

theorem Step.low {lo hi : Nat} {w w' : World} (h : Step lo hi w w') (hl : lo ≤ w.heap.size) : Below lo w w' := h.below (Below.refl _ _) (Nat.le_refl _) hl
/-- A slice comes back that owns zs; below lo all stands. -/
def Grew (k : IntKind) (E : TypeId) (lo : Nat) (zs : List Int) (w : World) (e : Ending) (w' : World) : Prop :=
  ∃ A n c, e = .returned (.slice A n c) ∧ Own k E lo w'.heap.size w' A n c zs ∧ Below lo w w'
theorem Grew.ret {k : IntKind} {E : TypeId} {lo : Nat} {zs ys : List Int} {w w' : World} {A : Option Addr} {n c hi : Nat} (h : Own k E lo hi w' A n c ys) (he : ys = zs) (hb : Below lo w w') : Grew k E lo zs w (.returned (.slice A n c)) w' := by
  subst he
  have hs := h.2.2.1
  exact ⟨A, n, c, rfl, h.more hs (Nat.le_refl _), hb⟩
/-- The bytes that a number adds. -/
def encU (x : Int) : List Int := if 0 ≤ x ∧ x ≤ 1000000000000 then putU x.toNat else []
theorem encU_in {n : Nat} (h : n ≤ 1000000000000) : encU (n : Int) = putU n := by rw [encU, if_pos (by omega), Int.toNat_natCast]
theorem encU_out {x : Int} (h : ¬ (0 ≤ x ∧ x ≤ 1000000000000)) : encU x = [] := by rw [encU, if_neg h]
theorem encU_len (x : Int) : (encU x).length ≤ 6 := by
  unfold encU
  split
  · exact (putU_len6 (by omega)).2
  · simp
theorem encU_byt (x : Int) : Byt (encU x) := by
  unfold encU
  split
  · exact putU_byt _
  · exact Byt.nil

/-- Some groups are laid. -/
def Putting (lo : Nat) (zs : List Int) (x : Nat) (w : World) (m : Nat) (A : Option Addr) (n c : Nat) (wr : World) : Prop :=
  ∃ pre : List Int, Own .u8 5 lo wr.heap.size wr A n c (zs ++ pre) ∧ pre ++ putU m = putU x ∧ Below lo w wr
theorem Putting.len {lo x m n c : Nat} {zs : List Int} {w wr : World} {A : Option Addr} (h : Putting lo zs x w m A n c wr) (hx : x ≤ 1000000000000) : n ≤ zs.length + 6 := by
  obtain ⟨pre, hO, hp, -⟩ := h
  have h1 := hO.1
  have h2 := congrArg List.length hp
  have h3 := (putU_len6 hx).2
  simp only [List.length_append] at h1 h2
  omega
theorem Putting.next {lo hi x m n c n' c' : Nat} {zs : List Int} {w wr w' : World} {A A' : Option Addr} {g : Int} {ys : List Int} {o : Obj} (h : Putting lo zs x w m A n c wr) (hm : ¬ m < 128) (hg : g = ((128 + m % 128 : Nat) : Int))
    (hO : Own .u8 5 lo w'.heap.size w' A' n' c' (ys ++ [g])) (hS : Step lo hi (wr.alloc o) w') (hl : lo ≤ wr.heap.size) (hys : ∃ pre, ys = zs ++ pre ∧ pre ++ putU m = putU x) : Putting lo zs x w (m / 128) A' n' c' w' := by
  obtain ⟨pre, rfl, hp⟩ := hys
  obtain ⟨-, -, -, hb⟩ := h
  subst hg
  rw [putU_big hm] at hp
  exact ⟨pre ++ [((128 + m % 128 : Nat) : Int)], by rw [← List.append_assoc]; exact hO, by rw [List.append_assoc]; exact hp, hb.trans (((Below.refl _ _).alloc hl o).trans (hS.low (by simp; omega)))⟩
theorem inR_true (n a b : Int) (w : World) (h1 : a ≤ n) (h2 : n ≤ b) : Calls Try.prog 54 #[.int .i64 n, .int .i64 a, .int .i64 b] w fun e w' => e = .returned (.bool true) ∧ w = w' := by
  go_enter Try.func54, Try.ntmps54
  go_wp2
  go_ret
  exact ⟨rfl, rfl⟩
theorem inR_false (n a b : Int) (w : World) (h1 : ¬ (a ≤ n ∧ n ≤ b)) : Calls Try.prog 54 #[.int .i64 n, .int .i64 a, .int .i64 b] w fun e w' => e = .returned (.bool false) ∧ w = w' := by
  by_cases h : a ≤ n
  · have h2 : ¬ n ≤ b := fun h' => h1 ⟨h, h'⟩
    clear h1
    go_enter Try.func54, Try.ntmps54
    go_wp2
    go_ret
    exact ⟨rfl, rfl⟩
  · clear h1
    go_enter Try.func54, Try.ntmps54
    go_wp2
    go_ret
    exact ⟨rfl, rfl⟩
set_option maxRecDepth 100000 in
set_option maxHeartbeats 1000000 in
theorem putUvarint (lo hi : Nat) (A : Option Addr) (n c : Nat) (zs : List Int) (x : Int) (w : World) (h : Own .u8 5 lo hi w A n c zs) (hn : n ≤ 1099511627776) (hlo : lo ≤ w.heap.size) (hx0 : -9223372036854775808 ≤ x) (hx1 : x ≤ 9223372036854775807) :
    Calls Try.prog 72 #[.slice A n c, .int .i64 x] w (Grew .u8 5 lo (zs ++ encU x) w) := by
  by_cases hin : 0 ≤ x ∧ x ≤ 1000000000000
  · obtain ⟨i0, hi, hz0, hz1, hz2⟩ := info_parts infoB
    obtain ⟨u, rfl⟩ : ∃ u : Nat, x = u := ⟨x.toNat, by omega⟩
    have hu : u ≤ 1000000000000 := by omega
    have hP : Putting lo zs u w u A n c w := by
      have hs := h.2.2.1
      exact ⟨[], by simpa using h.more hs (Nat.le_refl _), rfl, Below.refl _ _⟩
    have hzn := h.1
    have hP' := Lib.hid hP
    have hzn' : zs.length ≤ 1099511627776 := by omega
    clear h hP hzn
    go_enter Try.func72, Try.ntmps72
    go_wp2_with ((with_reducible refine (inR_true _ _ _ _ (by omega) (by omega)).mono ?_); rintro e w' ⟨rfl, rfl⟩)
    go_loopw [0, 1] (fun sv nv wr => ∃ (A : Option Addr) (n c m : Nat), sv = .slice A n c ∧ nv = .int .i64 m ∧ m ≤ 1000000000000 ∧ Putting lo zs u w m A n c wr) (fun _ nv _ => (intOf nv).toNat)
    case atStart => exact ⟨_, _, _, u, rfl, rfl, hu, hP'.out⟩
    case round =>
      obtain ⟨A, n, c, m, rfl, rfl, hm, hPr⟩ := hrel
      have hle := hPr.len hu
      have HP := Lib.hid hPr
      obtain ⟨pre, hO, hpm, hb⟩ := hPr
      have hl2 : lo ≤ wr.heap.size := by have := hb.size; omega
      have HB := Lib.hid hb
      have HO := Lib.hid hO
      have HM := Lib.hid hpm
      clear hb hO hP' hpm
      by_cases hlt : m < 128
      · go_wp2_with (at_builtin; refine wpList_append_rz _ rfl _ _ 22 rfl .u8 5 i0 0 1 Try.underlying22 hi hz0 hz1 hz2 lo wr.heap.size A n c _ rfl (HO.out.alloc _) _ 1 1 [_] rfl (Rz.one _ _ _ _) (by unfold maxLen; omega) (by omega) (by simp; omega) ?_; intro A' c' w' hO' hS)
        go_ret
        refine Grew.ret hO' ?_ (HB.out.trans (((Below.refl _ _).alloc hl2 _).trans (hS.low (by simp; omega))))
        rw [encU_in hu, ← HM.out, putU_small hlt, List.append_assoc]
      · go_wp2_with (at_builtin; refine wpList_append_rz _ rfl _ _ 22 rfl .u8 5 i0 0 1 Try.underlying22 hi hz0 hz1 hz2 lo wr.heap.size A n c _ rfl (HO.out.alloc _) _ 1 1 [_] rfl (Rz.one _ _ _ _) (by unfold maxLen; omega) (by omega) (by simp; omega) ?_; intro A' c' w' hO' hS)
        have hN := HP.out.next hlt (grp m) hO' hS hl2 ⟨pre, rfl, HM.out⟩
        clear hO' hS
        go_roundw
        case rel => exact ⟨A', n + 1, c', m / 128, rfl, by go_num, by omega, hN⟩
        case measure => simp [intOf]; omega
  · have H := Lib.hid h
    clear h
    go_enter Try.func72, Try.ntmps72
    go_wp2_with ((with_reducible refine (inR_false _ _ _ _ hin).mono ?_); rintro e w' ⟨rfl, rfl⟩)
    go_ret
    exact Grew.ret H.out (by rw [encU_out hin, List.append_nil]) (Below.refl _ _)
theorem Grew.fresh {k : IntKind} {E : TypeId} {zs : List Int} {w w1 w' : World} {e : Ending} (h : Grew k E w.heap.size zs w1 e w') (hb : Below w.heap.size w w1) : Fresh k E zs w e w' := by
  obtain ⟨A, n, c, rfl, hO, hb'⟩ := h
  exact Fresh.ret hO (hb.trans hb')
set_option maxHeartbeats 1000000 in
/-- impl.AppendBytes: a copy, the length, the data. -/
theorem implAppB (A : Option Addr) (n c : Nat) (zs : List Int) (A' : Option Addr) (n' c' : Nat) (zs' : List Int) (w : World) (h : Rz .u8 w A n zs) (h' : Rz .u8 w A' n' zs') (hn : n ≤ 549755813888) (hn' : n' ≤ 549755813888) :
    Calls Try.prog 38 #[.slice A n c, .slice A' n' c'] w (Fresh .u8 5 (zs ++ encU (n' : Int) ++ zs') w) := by
  obtain ⟨i0, hi, hz0, hz1, hz2⟩ := info_parts infoB
  have H := Lib.hid h
  have H' := Lib.hid h'
  clear h h'
  go_enter Try.func38, Try.ntmps38
  go_wp2_with fail
  refine (copyBytes A n c zs _ H.out (by omega)).mono ?_
  rintro e w1 ⟨A1, n1, c1, rfl, hO, hb⟩
  have hn1 : n1 ≤ 549755813888 := by have h1 := hO.1; have h2 := H.out.1; omega
  have HO := Lib.hid hO
  have HB := Lib.hid hb
  have hs := hb.size
  clear hO hb
  go_wp2_with fail
  refine (putUvarint w.heap.size w1.heap.size A1 n1 c1 zs (n' : Int) _ HO.out (by omega) hs (by omega) (by omega)).mono ?_
  rintro e w2 ⟨A2, n2, c2, rfl, hO2, hb2⟩
  have hn2 : n2 ≤ 549755813894 := by
    have h1 := hO2.1; have h2 := H.out.1; have h3 := encU_len (n' : Int)
    simp only [List.length_append] at h1; omega
  have hs2 : w.heap.size ≤ w2.heap.size := by have := hb2.size; omega
  have HO2 := Lib.hid hO2
  have HB2 := Lib.hid hb2
  have HR := Lib.hid (H'.out.below (HB.out.trans HB2.out))
  clear hO2 hb2
  go_wp2_with (at_builtin; refine wpList_append_rz _ rfl _ _ 22 rfl .u8 5 i0 0 1 Try.underlying22 hi hz0 hz1 hz2 w.heap.size w2.heap.size A2 n2 c2 _ rfl HO2.out A' n' c' zs' rfl HR.out (by unfold maxLen; omega) (by omega) hs2 ?_; intro A3 c3 w3 hO3 hS3)
  have HO3 := Lib.hid hO3
  have HS3 := Lib.hid hS3
  clear hO3 hS3
  go_ret
  exact Fresh.ret (HO3.out) ((HB.out.trans HB2.out).trans (HS3.out.low hs2))
end Go.Proofs.Ytchofnligbgigaa
