/- The reference's AreValues and EqualValues. -/
import Derived.Test.YtmeacgpebpfpbaaSpecV
namespace Go.Proofs.Ytmeacgpebpfpbaa
open Go.RowKit
theorem areVals_yes {L : List V} {e : Int} {n : Nat} (h : L.length = n) (hs : areVals (L.take n) e = true) : true = areVals L e := by
  rw [List.take_of_length_le (by omega)] at hs
  exact hs.symm
theorem areVals_at {L : List V} {e : Int} {i : Nat} {x : V} (h : L[i]? = some x) (hx : isVal x e = false) : false = areVals L e := by
  symm
  rw [areVals, List.all_eq_false]
  exact ⟨x, List.mem_of_getElem? h, by simp [hx]⟩
theorem areVals_next {L : List V} {e : Int} {i : Nat} {x : V} (hs : areVals (L.take i) e = true) (h : L[i]? = some x) (hx : isVal x e = true) : areVals (L.take (i + 1)) e = true := by
  have a := List.getElem?_eq_some_iff.1 h
  rw [List.take_succ_eq_append_getElem a.1, areVals, List.all_append]
  simp only [List.all_cons, List.all_nil, a.2, hx, Bool.and_true]
  exact hs
/-- Two lists are one. -/
noncomputable def eqVals (L L' : List V) : Bool := @decide (L = L') (Classical.propDecidable _)
theorem eqVals_yes {L L' : List V} {n : Nat} (h : L.length = n) (h' : L'.length = n) (hs : L.take n = L'.take n) : true = eqVals L L' := by
  rw [List.take_of_length_le (by omega), List.take_of_length_le (by omega)] at hs
  exact (@decide_eq_true _ (Classical.propDecidable _) hs).symm
theorem eqVals_len {L L' : List V} {n n' : Nat} (h : L.length = n) (h' : L'.length = n') (hn : ¬ n = n') : false = eqVals L L' :=
  (@decide_eq_false _ (Classical.propDecidable _) (fun e => hn (by rw [← h, ← h', e]))).symm
theorem eqVals_at {L L' : List V} {i : Nat} {x x' : V} (h : L[i]? = some x) (h' : L'[i]? = some x') (hz : ¬ x = x') : false = eqVals L L' :=
  (@decide_eq_false _ (Classical.propDecidable _) (fun e => by subst e; rw [h] at h'; exact hz (Option.some.inj h'))).symm
theorem eqVals_same (L : List V) : eqVals L L = true := @decide_eq_true _ (Classical.propDecidable _) rfl
theorem take_nextV {L L' : List V} {i : Nat} {x : V} (hs : L.take i = L'.take i) (h : L[i]? = some x) (h' : L'[i]? = some x) : L.take (i + 1) = L'.take (i + 1) := by
  have a := (List.getElem?_eq_some_iff.1 h)
  have b := (List.getElem?_eq_some_iff.1 h')
  rw [List.take_succ_eq_append_getElem a.1, List.take_succ_eq_append_getElem b.1, hs, a.2, b.2]
set_option maxRecDepth 100000 in
set_option maxHeartbeats 1000000 in
theorem specEqVS (A A' : Option Addr) (n n' c c' : Nat) (L L' : List V) (w : World) (h : FR layV w A n L) (h' : FR layV w A' n' L') (hn : n ≤ 1099511627776) :
    Calls Try.prog 157 #[.slice A n c, .slice A' n' c'] w (GivesBool (eqVals L L') w) := by
  by_cases hl : n = n'
  · subst hl
    have H := Lib.hid h
    have H' := Lib.hid h'
    clear h h'
    go_enter Try.func157, Try.ntmps157
    go_wp2
    go_loopw [5] (fun iv wr => ∃ i : Nat, i ≤ n ∧ iv = .int .i64 i ∧ L.take i = L'.take i ∧ Below w.heap.size w wr) (fun iv _ => n - (intOf iv).toNat)
    case atStart => exact ⟨0, Nat.zero_le _, rfl, rfl, Below.refl _ _⟩
    case round =>
      obtain ⟨i, hin, rfl, hs, hb⟩ := hrel
      by_cases hlt : i < n
      · obtain ⟨b, off, x, rfl, hbw, hzi, hcell⟩ := (H.out.below hb).at_ hlt
        obtain ⟨b', off', x', rfl, hbw', hzi', hcell'⟩ := (H'.out.below hb).at_ hlt
        have hc0 : wr.cell? ⟨b, off + i * 2, none⟩ = some (.int .i64 x.kind) := hcell 0 _ rfl
        have hc1 : wr.cell? ⟨b, off + i * 2 + 1, none⟩ = some (.int .i64 x.n) := hcell 1 _ rfl
        have hc0' : wr.cell? ⟨b', off' + i * 2, none⟩ = some (.int .i64 x'.kind) := hcell' 0 _ rfl
        have hc1' : wr.cell? ⟨b', off' + i * 2 + 1, none⟩ = some (.int .i64 x'.n) := hcell' 1 _ rfl
        have HB := Lib.hid hb
        have HS := Lib.hid hs
        have HZ := Lib.hid hzi
        have HZ' := Lib.hid hzi'
        clear hzi hzi' hb hs hcell hcell'
        by_cases hz : x = x'
        · subst hz
          go_wp2
          go_quiet (fail)
          go_wp2
          go_roundw
          case rel => exact ⟨i + 1, by omega, by go_num, take_nextV HS.out HZ.out HZ'.out, below_drewN HB.out _⟩
          case measure => simp [intOf]; omega
        · have HE := Lib.hid (eqVals_at HZ.out HZ'.out hz)
          obtain ⟨k, m⟩ := x
          obtain ⟨k', m'⟩ := x'
          have hkm : ¬ (k = k' ∧ m = m') := fun e => hz (by rw [e.1, e.2])
          clear hz
          by_cases hk : k = k'
          · subst hk
            have hm : ¬ m = m' := fun e => hkm ⟨rfl, e⟩
            clear hkm
            go_wp2
            go_quiet (fail)
            go_wp2
            go_ret
            exact GivesBool.of HE.out (below_drewN HB.out _)
          · clear hkm
            go_wp2
            go_quiet (fail)
            go_wp2
            go_ret
            exact GivesBool.of HE.out (below_drewN HB.out _)
      · obtain rfl : i = n := by omega
        have HB := Lib.hid hb
        have HS := Lib.hid hs
        clear hb hs
        go_wp2
        go_ret
        exact GivesBool.of (eqVals_yes H.out.1 H'.out.1 HS.out) HB.out
  · have HL := Lib.hid (eqVals_len h.1 h'.1 hl)
    clear h h'
    have hl' : ¬ (n : Int) = (n' : Int) := by omega
    go_enter Try.func157, Try.ntmps157
    go_wp2
    go_ret
    exact GivesBool.of HL.out (Below.refl _ _)
end Go.Proofs.Ytmeacgpebpfpbaa
