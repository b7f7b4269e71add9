/- DecodeInts, the program's and the reference's. -/
import Derived.Test.YtchofnligbgigaaDecB
namespace Go.Proofs.Ytchofnligbgigaa
open Go.RowKit

/-- A list of numbers, read one behind the other. -/
def decGo (zs : List Int) : Nat → Int → Option (List Int × Int)
  | 0, off => some ([], off)
  | c + 1, off => match readU zs off with
    | none => none
    | some (v, k) => (decGo zs c (off + k)).map fun p => ((v : Int) :: p.1, p.2)
theorem decGo_no {zs : List Int} {c : Nat} {off : Int} (h : readU zs off = none) : decGo zs (c + 1) off = none := by rw [decGo, h]
theorem decGo_yes {zs : List Int} {c : Nat} {off : Int} {v k : Nat} (h : readU zs off = some (v, k)) : decGo zs (c + 1) off = (decGo zs c (off + k)).map fun p => ((v : Int) :: p.1, p.2) := by rw [decGo, h]
def decL (zs : List Int) (off count : Int) : Option (List Int × Int) := if (0 ≤ count ∧ count ≤ 100) ∧ (0 ≤ off ∧ off ≤ zs.length) then decGo zs count.toNat off else none
theorem decL_out {zs : List Int} {off count : Int} (h : ¬ ((0 ≤ count ∧ count ≤ 100) ∧ (0 ≤ off ∧ off ≤ zs.length))) : decL zs off count = none := if_neg h
theorem decL_in {zs : List Int} {o c : Nat} (hc : c ≤ 100) (ho : o ≤ zs.length) : decL zs (o : Int) (c : Int) = decGo zs c (o : Int) := by
  unfold decL
  rw [if_pos (by omega), Int.toNat_natCast]
/-- Midway. -/
def DecAt (zs : List Int) (C : Nat) (o0 : Int) (i o : Nat) (pre : List Int) : Prop := pre.length = i ∧ o ≤ zs.length ∧ (decGo zs (C - i) (o : Int)).map (fun p => (pre ++ p.1, p.2)) = decGo zs C o0
theorem DecAt.start {zs : List Int} {C o : Nat} (h : o ≤ zs.length) : DecAt zs C (o : Int) 0 o [] := ⟨rfl, h, by simp⟩
theorem DecAt.next {zs : List Int} {C i o v k : Nat} {o0 : Int} {pre : List Int} (h : DecAt zs C o0 i o pre) (hi : i < C) (hb : Byt zs) (hr : readU zs (o : Int) = some (v, k)) : DecAt zs C o0 (i + 1) (o + k) (pre ++ [(v : Int)]) := by
  obtain ⟨h1, h2, h3⟩ := h
  have hp := put_readU hb hr
  rw [show C - i = (C - (i + 1)) + 1 by omega, decGo_yes hr] at h3
  refine ⟨by simp [h1], by omega, ?_⟩
  rw [← h3, Option.map_map]
  have e : (((o + k : Nat)) : Int) = (o : Int) + (k : Int) := by omega
  rw [e]
  congr 1
  funext p
  simp
theorem DecAt.fail {zs : List Int} {C i o : Nat} {o0 : Int} {pre : List Int} (h : DecAt zs C o0 i o pre) (hi : i < C) (hr : readU zs (o : Int) = none) : decGo zs C o0 = none := by
  obtain ⟨h1, h2, h3⟩ := h
  rw [show C - i = (C - (i + 1)) + 1 by omega, decGo_no hr] at h3
  rw [← h3]
  rfl
theorem DecAt.done {zs : List Int} {C o : Nat} {o0 : Int} {pre : List Int} (h : DecAt zs C o0 C o pre) : decGo zs C o0 = some (pre, (o : Int)) := by
  obtain ⟨h1, h2, h3⟩ := h
  rw [Nat.sub_self] at h3
  rw [← h3]
  simp [decGo]
theorem snoc_old {pre : List Int} {v : Int} {j i : Nat} (h : pre.length = i) (hj : j < i) : (pre ++ [v])[j]? = pre[j]? := List.getElem?_append_left (by omega)
theorem snoc_new {pre : List Int} {v : Int} {i : Nat} (h : pre.length = i) : (pre ++ [v])[i]? = some v := by subst h; simp
/-- The first i are stored. -/
def Wrote (w : World) (C i : Nat) (pre : List Int) (wr : World) : Prop :=
  ∃ ys : List Int, Own .i64 3 w.heap.size (w.heap.size + 1) wr (some ⟨w.heap.size, 0, none⟩) C C ys ∧ (∀ j, j < i → ys[j]? = pre[j]?) ∧ Below w.heap.size w wr
theorem Wrote.next {w wr w' : World} {C i : Nat} {pre : List Int} {v : Int} (h : Wrote w C i pre wr) (hb : Below wr.heap.size wr w') (hi : i < C) (hp : pre.length = i) : Wrote w C (i + 1) (pre ++ [v]) (w'.setCell ⟨w.heap.size, i, none⟩ (.int .i64 v)) := by
  obtain ⟨ys, hO, hy, hbw⟩ := h
  obtain ⟨h1, h2⟩ := (hO.below hb).store (i := i) rfl v
  refine ⟨_, h1, fun j hj => ?_, h2.below (hbw.trans (hb.mono hbw.size)) (Nat.le_refl _) (Nat.le_trans hbw.size hb.size)⟩
  rw [List.getElem?_set]
  by_cases e : i = j
  · subst e
    rw [if_pos rfl, if_pos (by have := hO.1; omega), snoc_new hp]
  · rw [if_neg e, snoc_old hp (by omega)]
    exact hy j (by omega)
theorem Wrote.own {w wr : World} {C : Nat} {pre : List Int} (h : Wrote w C C pre wr) (hp : pre.length = C) : Own .i64 3 w.heap.size (w.heap.size + 1) wr (some ⟨w.heap.size, 0, none⟩) C C pre ∧ Below w.heap.size w wr := by
  obtain ⟨ys, hO, hy, hb⟩ := h
  obtain rfl : ys = pre := zs_ext hO.1 hp hy
  exact ⟨hO, hb⟩
theorem Wrote.below {w wr : World} {C i : Nat} {pre : List Int} (h : Wrote w C i pre wr) : Below w.heap.size w wr := by
  obtain ⟨ys, hO, hy, hb⟩ := h
  exact hb
set_option maxRecDepth 100000 in
set_option maxHeartbeats 1000000 in
theorem specDecL (A : Option Addr) (n c : Nat) (zs : List Int) (off cn : Int) (w : World) (h : Rz .u8 w A n zs) (hby : Byt zs) (hn : n ≤ 549755813888) (ho0 : -9223372036854775808 ≤ off) (ho1 : off ≤ 9223372036854775807)
    (hm0 : -9223372036854775808 ≤ cn) (hm1 : cn ≤ 9223372036854775807) :
    Calls Try.prog 65 #[.slice A n c, .int .i64 off, .int .i64 cn] w (FreshT .i64 3 (fstL (decL zs off cn)) (sndL (decL zs off cn)) (decL zs off cn).isSome w) := by
  have hln := h.1
  have H := Lib.hid h
  have HBY := Lib.hid hby
  clear h hby
  by_cases hc : 0 ≤ cn ∧ cn ≤ 100
  · by_cases ho : 0 ≤ off ∧ off ≤ (n : Int)
    · obtain ⟨o0, rfl⟩ : ∃ o : Nat, off = o := ⟨off.toNat, by omega⟩
      obtain ⟨C, rfl⟩ : ∃ o : Nat, cn = o := ⟨cn.toNat, by omega⟩
      have hC : C ≤ 100 := by omega
      have hon : o0 ≤ n := by omega
      rw [decL_in hC (by omega)]
      have hst : DecAt zs C (o0 : Int) 0 o0 [] := DecAt.start (by omega)
      have HST := Lib.hid hst
      have HLN := Lib.hid hln
      clear hst hln
      obtain ⟨i0, hi, hz0, hz1, hz2⟩ := info_parts infoI
      go_enter Try.func65, Try.ntmps65
      go_wp2_with ((with_reducible refine (l1In_true _ _ _ _ (by omega) (by omega)).mono ?_); rintro e w' ⟨rfl, rfl⟩)
      go_loopw [9, 1, 10] (fun sv ov iv wr => ∃ (A' : Option Addr) (n' c' i o : Nat) (pre : List Int), sv = .slice A' n' c' ∧ ov = .int .i64 o ∧ iv = .int .i64 i ∧ i ≤ C ∧ DecAt zs C (o0 : Int) i o pre ∧ Own .i64 3 w.heap.size wr.heap.size wr A' n' c' pre ∧ Below w.heap.size w wr) (fun _ _ iv _ => C - (intOf iv).toNat)
      case atStart => exact ⟨_, _, _, 0, o0, [], rfl, rfl, rfl, Nat.zero_le _, HST.out, (Own.none_ .i64 3 w).more (by simp) (Nat.le_refl _), (Below.refl _ _).alloc (Nat.le_refl _) _⟩
      case round =>
        obtain ⟨A', n', c', i, o, pre, rfl, rfl, rfl, hiC, hD, hO, hB⟩ := hrel
        have hol : o ≤ n := by have h1 := hD.2.1; have h2 := HLN.out; omega
        have hn' : n' ≤ 100 := by have h1 := hD.1; have h2 := hO.1; omega
        have hs := hB.size
        have HD := Lib.hid hD
        have HO := Lib.hid hO
        have HB := Lib.hid hB
        clear hD hO hB
        by_cases hlt : i < C
        · rcases hR : readU zs (o : Int) with _ | ⟨v, k⟩
          · have hno := HD.out.fail hlt hR
            have HNO := Lib.hid hno
            have HV := Lib.hid (readV_no hR)
            clear hno hR
            go_wp2_with ((with_reducible refine (specReadV A n _ zs o _ _ HV.out (H.out.below HB.out) HBY.out hn (by omega) (by omega)).mono ?_); rintro e w2 ⟨rfl, hb2⟩; have HB2 := Lib.hid hb2; have hs2 := hb2.size; clear hb2)
            go_ret3
            rw [HNO.out]
            exact FreshT.ret ((Own.none_ .i64 3 _).less (by omega)) rfl rfl ((HB.out.trans (HB2.out.mono hs)).trans ((Below.refl _ _).alloc (by omega) _))
          · have hD2 := HD.out.next hlt HBY.out hR
            have hp := put_readU HBY.out hR
            have hok : o + k ≤ n := by have h2 := HLN.out; omega
            have HD2 := Lib.hid hD2
            have HV := Lib.hid (readV_some hR)
            clear hR hD2 hp
            go_wp2_with (first
              | ((with_reducible refine (specReadV A n _ zs o _ _ HV.out (H.out.below HB.out) HBY.out hn (by omega) (by omega)).mono ?_); rintro e w2 ⟨rfl, hb2⟩; have HB2 := Lib.hid hb2; have hs2 := hb2.size; have HO2 := Lib.hid (HO.out.below hb2); clear hb2)
              | (at_builtin; refine wpList_append_rz _ rfl _ _ 60 rfl .i64 3 i0 0 8 Try.underlying60 hi hz0 hz1 hz2 w.heap.size wr.heap.size A' n' c' _ rfl (HO2.out.alloc _) _ 1 1 [_] rfl (Rz.one _ _ _ _) (by unfold maxLen; omega) (by omega) (by simp; omega) ?_; intro A3 c3 w3 hO3 hS3; have HO3 := Lib.hid hO3; have HB3 := Lib.hid ((HB.out.trans (HB2.out.mono hs)).trans (((Below.refl _ _).alloc (by omega) _).trans (hS3.low (by simp; omega)))); clear hO3 hS3))
            go_roundw
            case rel => exact ⟨A3, n' + 1, c3, i + 1, o + k, pre ++ [(v : Int)], rfl, by go_num, by go_num, by omega, HD2.out, HO3.out, HB3.out⟩
            case measure => simp [intOf]; omega
        · obtain rfl : i = C := by omega
          have hd := HD.out.done
          have HDN := Lib.hid hd
          clear hd
          go_wp2_with fail
          go_ret3
          rw [HDN.out]
          exact FreshT.ret HO.out rfl rfl HB.out
    · rw [decL_out (by omega)]
      clear hln
      go_enter Try.func65, Try.ntmps65
      go_wp2_with (first
        | ((with_reducible refine (l1In_false _ _ _ _ ho).mono ?_); rintro e w' ⟨rfl, rfl⟩)
        | ((with_reducible refine (l1In_true _ _ _ _ (by omega) (by omega)).mono ?_); rintro e w' ⟨rfl, rfl⟩))
      go_ret3
      exact FreshT.ret (Own.none_ .i64 3 w) rfl rfl ((Below.refl _ _).alloc (Nat.le_refl _) _)
  · rw [decL_out (by omega)]
    clear hln
    go_enter Try.func65, Try.ntmps65
    go_wp2_with ((with_reducible refine (l1In_false _ _ _ _ hc).mono ?_); rintro e w' ⟨rfl, rfl⟩)
    go_ret3
    exact FreshT.ret (Own.none_ .i64 3 w) rfl rfl ((Below.refl _ _).alloc (Nat.le_refl _) _)
end Go.Proofs.Ytchofnligbgigaa
