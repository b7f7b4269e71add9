/- Chapter 8: MadeBy, the reference's. -/
import Derived.Test.YtgibhbplgiejpaaGreatMade
import Derived.Test.YtgibhbplgiejpaaGreatIsI
namespace Go.Proofs.YtgibhbplgiejpaaGreat
open Go.RowKit
set_option linter.unusedVariables false
set_option linter.unusedSimpArgs false
theorem memB_take {L : List ByteArray} {j : Nat} {v x : ByteArray} (h : L[j]? = some v) : memB x (L.take (j + 1)) = (memB x (L.take j) || decide (v = x)) := by
  rw [List.take_add_one, h]
  show memB x (L.take j ++ [v]) = _
  by_cases e : v = x
  · subst e
    rw [memB_last]; simp
  · rw [memB_snoc x v _ (fun h => e h.symm)]; simp [e]
theorem once_names {α : Type} [DecidableEq α] {L : List α} {x : α} (h : memB x (onceL [] L) = true) : onceL [] (L ++ [x]) = onceL [] L := by
  rw [onceL_snoc, if_pos (of_decide_eq_true h)]
theorem once_names' {α : Type} [DecidableEq α] {L : List α} {x : α} (h : memB x (onceL [] L) = false) : onceL [] (L ++ [x]) = onceL [] L ++ [x] := by
  rw [onceL_snoc, if_neg (of_decide_eq_false h)]
theorem low_cell {W w : World} (h : Below W.heap.size W w) {b o : Nat} (hb : b < W.heap.size) {v : Value} (hc : W.cell? ⟨b, o, none⟩ = some v) : w.cell? ⟨b, o, none⟩ = some v := (h.cell (p := ⟨b, o, none⟩) hb).trans hc
set_option maxRecDepth 100000 in
set_option maxHeartbeats 8000000 in
theorem specMade (f0 : ByteArray) (M : List Dat) (A : Option Addr) (n c : Nat) (w : World) (h : Lies w (.l M) [.slice A n c]) (ht : ∀ x ∈ M, Has tyMethod x) (hq : (Dat.r [.s f0, .l M]).bulk ≤ 1099511627776) :
    Calls Tryz.prog 17 #[.agg #[.string f0, .slice A n c]] w (GivesNames (madeL M) w) := by
  obtain ⟨i0, hi, hz0, hz1, hz2⟩ := info_parts infoS8
  have hn : n ≤ 1099511627776 := by have := h.count; simp only [Dat.bulk, bulkAll] at hq; omega
  have hbk : bulkAll M ≤ 1099511627776 := by simp only [Dat.bulk, bulkAll] at hq; omega
  have H := Lib.hid h
  have HT := Lib.hid ht
  have HC := Lib.hid h.count
  have M0 := Lib.hid (MdS.start w f0 A n c 37)
  clear h ht
  go_enter Tryz.func17, Tryz.ntmps17
  go_wp2
  go_loopw [3, 4] (fun sv iv wr => ∃ (A' : Option Addr) (m cap i : Nat), sv = .slice A' m cap ∧ iv = .int .i64 i ∧ i ≤ n ∧ MdS w f0 A n c (onceL [] (namesM (M.take i))) wr A' m cap) (fun _ iv _ => n - (intOf iv).toNat)
  case atStart => exact ⟨_, _, _, 0, rfl, rfl, Nat.zero_le _, M0.out⟩
  case round =>
    rename World => wo
    obtain ⟨A', m, cap, i, rfl, rfl, hin, hM⟩ := hrel
    have MM := Lib.hid hM
    obtain ⟨p0, p1⟩ := hM.two
    clear hM M0
    by_cases hlt : i < n
    · obtain ⟨b, off, d, xs, rfl, hbw, hzi, hlie, hlen, hcell⟩ := H.out.elem (fun x hx => (HT.out x hx).width) hlt
      obtain ⟨g0, L1, A1, n1, c1, rfl, rfl, hg0, hl1, ht1, hm1⟩ := invMethod (HT.out d (List.mem_of_getElem? hzi)) hlie
      have HR1 : Hid (w.cell? ⟨b, off + i * 2 + 1, none⟩ = some (.slice A1 n1 c1)) := Lib.hid (hcell 1 _ rfl)
      have HLN := Lib.hid hl1.count
      have hbb : (namesM (M.take i)).length + n1 ≤ 1099511627776 := by
        have h1 := bulk_next hzi
        have h2 := bulk_take_le M (i + 1)
        have h3 := namesM_len (M.take i)
        have h4 := HLN.out
        simp only [Dat.bulk, bulkAll] at h1
        omega
      have HN := Lib.hid (namesM_next hzi)
      have HL1 := Lib.hid hl1
      have HT1 := Lib.hid ht1
      have M1 : Hid (MdS w f0 (some ⟨b, off, none⟩) n c (onceL [] (namesM (M.take i) ++ namesI (L1.take 0))) wo A' m cap) := Lib.hid (by simp only [List.take_zero, namesI, List.flatMap_nil, List.append_nil]; exact MM.out)
      clear hzi hcell hlie hl1 ht1
      go_wp2_with fail
      go_loopw [3, 5] (fun sv kv wr => ∃ (A' : Option Addr) (m cap k : Nat), sv = .slice A' m cap ∧ kv = .int .i64 k ∧ k ≤ n1 ∧ MdS w f0 (some ⟨b, off, none⟩) n c (onceL [] (namesM (M.take i) ++ namesI (L1.take k))) wr A' m cap) (fun _ kv _ => n1 - (intOf kv).toNat)
      case atStart => exact ⟨A', m, cap, 0, rfl, rfl, Nat.zero_le _, M1.out⟩
      case round =>
        rename World => wk
        obtain ⟨A', m, cap, k, rfl, rfl, hkn, hM⟩ := hrel
        replace MM := Lib.hid hM
        have q1 := low_cell hM.row.low hbw HR1.out
        obtain ⟨y0, y1⟩ := hM.two
        clear hM M1 p0 p1
        by_cases hlk : k < n1
        · obtain ⟨b2, off2, d, xs, rfl, hbw2, hzi, hlie, hlen, hcell⟩ := HL1.out.elem (fun x hx => (HT1.out x hx).width) hlk
          obtain ⟨f0', f1, f2, f3, f4, f5, hd, rfl, hf5⟩ := invInstr (HT1.out d (List.mem_of_getElem? hzi)) hlie
          have s0 : wk.cell? ⟨b2, off2 + k * 6, none⟩ = some (.int .i64 f0') := low_cell MM.out.row.low hbw2 (hcell 0 _ rfl)
          have s1 : wk.cell? ⟨b2, off2 + k * 6 + 1, none⟩ = some (.int .i64 f1) := low_cell MM.out.row.low hbw2 (hcell 1 _ rfl)
          have s2 : wk.cell? ⟨b2, off2 + k * 6 + 2, none⟩ = some (.int .i64 f2) := low_cell MM.out.row.low hbw2 (hcell 2 _ rfl)
          have s3 : wk.cell? ⟨b2, off2 + k * 6 + 3, none⟩ = some (.int .i64 f3) := low_cell MM.out.row.low hbw2 (hcell 3 _ rfl)
          have s4 : wk.cell? ⟨b2, off2 + k * 6 + 4, none⟩ = some (.int .i64 f4) := low_cell MM.out.row.low hbw2 (hcell 4 _ rfl)
          have s5 : wk.cell? ⟨b2, off2 + k * 6 + 5, none⟩ = some (.string f5) := low_cell MM.out.row.low hbw2 (hcell 5 _ rfl)
          have HNI := Lib.hid (namesI_next hzi)
          have hcm : m ≤ 1099511627776 := by
            have h1 := MM.out.count
            have h2 := namesI_len (L1.take k)
            have h3 := once_len (namesM (M.take i) ++ namesI (L1.take k)) []
            rw [List.length_append] at h3
            rw [List.length_take] at h2
            simp only [List.length_nil] at h3
            omega
          have X1 := Lib.hid (Boxed.mk_ wk f0' f1 f2 f3 f4 f5 32)
          have B2 : Hid (∀ o, Below wk.heap.size wk (wk.alloc o)) := Lib.hid (fun o => (Below.refl _ _).alloc (Nat.le_refl _) o)
          subst hd
          clear hzi hcell hlie
          by_cases h7 : f0' = 7
          · subst h7
            have HOL : Hid (namesM (M.take i) ++ namesI (L1.take (k + 1)) = (namesM (M.take i) ++ namesI (L1.take k)) ++ [f5]) := Lib.hid (by rw [HNI.out, nameI_yes rfl, List.append_assoc])
            obtain ⟨OL, hol⟩ : ∃ OL, namesM (M.take i) ++ namesI (L1.take k) = OL := ⟨_, rfl⟩
            rw [hol] at HOL MM
            clear hol
            have MX := Lib.hid (MM.out.below X1.out.2)
            go_wp2_with fail
            go_loopw [7, 8] (fun bv jv wr => ∃ j : Nat, j ≤ m ∧ jv = .int .i64 j ∧ bv = .bool (memB f5 ((onceL [] OL).take j)) ∧ Below (wk.alloc (.cells #[.int .i64 7, .int .i64 f1, .int .i64 f2, .int .i64 f3, .int .i64 f4, .string f5] 32)).heap.size (wk.alloc (.cells #[.int .i64 7, .int .i64 f1, .int .i64 f2, .int .i64 f3, .int .i64 f4, .string f5] 32)) wr) (fun _ jv _ => m - (intOf jv).toNat)
            case atStart => exact ⟨0, Nat.zero_le _, rfl, by rw [List.take_zero, memB_nil], Below.refl _ _⟩
            case round =>
              obtain ⟨j, hjm, rfl, rfl, hbj⟩ := hrel
              have MJ := Lib.hid (MX.out.below hbj)
              have XJ := Lib.hid (X1.out.below hbj)
              have HBJ := Lib.hid hbj
              clear hbj s0 s1 s2 s3 s4 s5
              obtain ⟨s0, s1, s2, s3, s4, s5⟩ := XJ.out.six
              by_cases hjl : j < m
              · obtain ⟨b3, off3, v, rfl, hb3, hv, hc3⟩ := strs_at MJ.out.row.grow.owns.lies hjl
                have HN2 := Lib.hid (memB_take (x := f5) hv)
                clear hv
                obtain ⟨q, hq⟩ : ∃ q, memB f5 ((onceL [] OL).take j) = q := ⟨_, rfl⟩
                rw [hq] at HN2 ⊢
                clear hq
                cases q with
                | true =>
                  go_wp2_with fail
                  go_quiet (fail)
                  go_wp2_with fail
                  go_roundw
                  case rel => exact ⟨j + 1, by omega, by go_num, by rw [HN2.out]; rfl, below_drewN HBJ.out _⟩
                  case measure => (simp [intOf]; try omega)
                | false =>
                  by_cases he : v = f5
                  · subst he
                    go_wp2_with fail
                    go_quiet (fail)
                    go_wp2_with fail
                    go_roundw
                    case rel => exact ⟨j + 1, by omega, by go_num, by rw [HN2.out]; simp, below_drewN HBJ.out _⟩
                    case measure => (simp [intOf]; try omega)
                  · have he1 := bytes_ne he
                    have he2 := bytes_neb he
                    have HE := Lib.hid he
                    clear he
                    go_wp2_with fail
                    go_quiet (fail)
                    go_wp2_with fail
                    go_roundw
                    case rel => exact ⟨j + 1, by omega, by go_num, by rw [HN2.out]; simp [HE.out, he1], below_drewN HBJ.out _⟩
                    case measure => (simp [intOf]; try omega)
              · have hjj : j = m := by omega
                subst hjj
                have HOC := Lib.hid MJ.out.count
                obtain ⟨q, hq⟩ : ∃ q, memB f5 (onceL [] OL) = q := ⟨_, rfl⟩
                have HQ := Lib.hid hq
                rw [List.take_of_length_le (by rw [HOC.out]; exact Nat.le_refl _), hq]
                clear hq
                cases q with
                | true =>
                  have HNN : Hid (MdS w f0 (some ⟨b, off, none⟩) n c (onceL [] (namesM (M.take i) ++ namesI (L1.take (k + 1)))) wr A' j cap) := Lib.hid (by rw [HOL.out, once_names HQ.out]; exact MJ.out)
                  go_wp2_with fail
                  go_roundw
                  case rel => exact ⟨A', j, cap, k + 1, rfl, by go_num, by omega, HNN.out⟩
                  case measure => (simp [intOf]; try omega)
                | false =>
                  have hlo := MJ.out.lo
                  have B3 : Hid (∀ o, Below wr.heap.size wr (wr.alloc o)) := Lib.hid (fun o => (Below.refl _ _).alloc (Nat.le_refl _) o)
                  go_wp2_with (at_builtin; refine wpList_append_dat _ rfl _ _ 39 rfl 1 (by omega) 9 i0 _ 16 Tryz.underlying39 hi hz0 hz1 rfl hz2 (w.heap.size + 1) A' j cap _ _ rfl (MJ.out.row.grow.below (B3.out _)) (some ⟨wr.heap.size, 0, none⟩) 1 1 [.s f5] (fun _ => False) rfl (Src.lit (xs := [.string f5]) rfl (by rw [Owns]) rfl (fun b h => h.elim)) (fun b h => h.elim) (fun a e h => h) (by unfold maxLen; omega) (by omega) (by simp; omega) ?_; intro A2 c2 w2 hG hT hA; have HM2 := Lib.hid (MJ.out.next (B3.out _) hG hT hA); clear hG hT hA)
                  have HNN : Hid (MdS w f0 (some ⟨b, off, none⟩) n c (onceL [] (namesM (M.take i) ++ namesI (L1.take (k + 1)))) w2 A2 (j + 1) c2) := Lib.hid (by rw [HOL.out, once_names' HQ.out]; exact HM2.out)
                  go_roundw
                  case rel => exact ⟨A2, j + 1, c2, k + 1, rfl, by go_num, by omega, HNN.out⟩
                  case measure => (simp [intOf]; try omega)
          · have h7b : (f0' != 7) = true := by simpa using h7
            have H7 := Lib.hid h7
            clear h7
            go_wp2_with fail
            go_roundw
            case rel => exact ⟨A', m, cap, k + 1, rfl, by go_num, by omega, by rw [HNI.out, nameI_no H7.out, List.append_nil]; exact MM.out.below (B2.out _)⟩
            case measure => (simp [intOf]; try omega)
        · have hkk : k = n1 := by omega
          subst hkk
          have HE : Hid (L1.take k = L1) := Lib.hid (List.take_of_length_le (by rw [HLN.out]; exact Nat.le_refl _))
          go_wp2_with fail
          go_roundw
          case rel => exact ⟨A', m, cap, i + 1, rfl, by go_num, by omega, by rw [HN.out]; have h1 := MM.out; rw [HE.out] at h1; exact h1⟩
          case measure => (simp [intOf]; try omega)
    · have hE : i = n := by omega
      subst hE
      have HR : Hid (FreshD ((madeL M).map Dat.s) w (.returned (.slice A' m cap)) wo) := Lib.hid (by
        have h1 := MM.out.row.ret
        rw [List.take_of_length_le (by rw [HC.out]; exact Nat.le_refl _)] at h1
        exact h1)
      go_wp2_with fail
      go_ret
      exact HR.out
end Go.Proofs.YtgibhbplgiejpaaGreat
