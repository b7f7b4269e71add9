/- Of no program: contracts that only draw; the reference's EqualValues so. -/
import Derived.Test.YtmeacgpebpfpbaaEntV
import Derived.LoopTactic
import Derived.Lib.Hide
import Derived.Deep.QuietTactic
import Derived.BigQuiet
import Derived.Deep.RegionWith
namespace Go.Proofs.Ytmeacgpebpfpbaa
open Go.RowKit
set_option linter.unusedVariables false
def Drewn (w w' : World) : Prop := ∃ m, w' = w.drewN m
theorem Drewn.refl (w : World) : Drewn w w := ⟨0, rfl⟩
theorem Drewn.more {w w' : World} (h : Drewn w w') (n : Nat) : Drewn w (w'.drewN n) := by
  obtain ⟨m, rfl⟩ := h
  exact ⟨m + n, World.drewN_drewN ..⟩
theorem Drewn.trans {w w' w2 : World} (h : Drewn w w') (k : Drewn w' w2) : Drewn w w2 := by
  obtain ⟨m, rfl⟩ := k
  exact h.more m
theorem Drewn.below {w w' : World} (h : Drewn w w') : Below w.heap.size w w' := by
  obtain ⟨m, rfl⟩ := h
  exact below_drewN (Below.refl _ _) m
/-- A bool comes back, and only draws were made. -/
def QuietB (b : Bool) (w : World) (e : Ending) (w' : World) : Prop := e = .returned (.bool b) ∧ ∃ m, w' = w.drewN m
theorem QuietB.of {b c : Bool} {w w' : World} (h : b = c) (hb : Drewn w w') : QuietB c w (.returned (.bool b)) w' := ⟨by rw [h], hb⟩
theorem QuietB.gives {b : Bool} {w : World} {e : Ending} {w' : World} (h : QuietB b w e w') : GivesBool b w e w' := ⟨h.1, Drewn.below h.2⟩
set_option maxRecDepth 100000 in
set_option maxHeartbeats 1000000 in
theorem specEqVQ (A A' : Option Addr) (n n' c c' : Nat) (L L' : List V) (w : World) (h : FR layV w A n L) (h' : FR layV w A' n' L') (hn : n ≤ 1099511627776) :
    Calls Try.prog 157 #[.slice A n c, .slice A' n' c'] w (QuietB (eqVals L L') w) := by
  by_cases hl : n = n'
  · subst hl
    have H := Lib.hid h
    have H' := Lib.hid h'
    clear h h'
    go_enter Try.func157, Try.ntmps157
    go_wp2
    go_loopw [5] (fun iv wr => ∃ i : Nat, i ≤ n ∧ iv = .int .i64 i ∧ L.take i = L'.take i ∧ Drewn w wr) (fun iv _ => n - (intOf iv).toNat)
    case atStart => exact ⟨0, Nat.zero_le _, rfl, rfl, Drewn.refl _⟩
    case round =>
      obtain ⟨i, hin, rfl, hs, hb⟩ := hrel
      by_cases hlt : i < n
      · obtain ⟨b, off, x, rfl, hbw, hzi, hcell⟩ := (H.out.below hb.below).at_ hlt
        obtain ⟨b', off', x', rfl, hbw', hzi', hcell'⟩ := (H'.out.below hb.below).at_ hlt
        have hc0 : wr.cell? ⟨b, off + i * 2, none⟩ = some (.int .i64 x.kind) := hcell 0 _ rfl
        have hc1 : wr.cell? ⟨b, off + i * 2 + 1, none⟩ = some (.int .i64 x.n) := hcell 1 _ rfl
        have hc0' : wr.cell? ⟨b', off' + i * 2, none⟩ = some (.int .i64 x'.kind) := hcell' 0 _ rfl
        have hc1' : wr.cell? ⟨b', off' + i * 2 + 1, none⟩ = some (.int .i64 x'.n) := hcell' 1 _ rfl
        have HB := Lib.hid hb
        have HS := Lib.hid hs
        have HZ := Lib.hid hzi
        have HZ' := Lib.hid hzi'
        clear hzi hzi' hb hs hcell hcell'
        by_cases hz : x = x'
        · subst hz
          go_wp2
          go_quiet (fail)
          go_wp2
          go_roundw
          case rel => exact ⟨i + 1, by omega, by go_num, take_nextV HS.out HZ.out HZ'.out, HB.out.more _⟩
          case measure => simp [intOf]; omega
        · have HE := Lib.hid (eqVals_at HZ.out HZ'.out hz)
          obtain ⟨k, m⟩ := x
          obtain ⟨k', m'⟩ := x'
          have hkm : ¬ (k = k' ∧ m = m') := fun e => hz (by rw [e.1, e.2])
          clear hz
          by_cases hk : k = k'
          · subst hk
            have hm : ¬ m = m' := fun e => hkm ⟨rfl, e⟩
            clear hkm
            go_wp2
            go_quiet (fail)
            go_wp2
            go_ret
            exact QuietB.of HE.out (HB.out.more _)
          · clear hkm
            go_wp2
            go_quiet (fail)
            go_wp2
            go_ret
            exact QuietB.of HE.out (HB.out.more _)
      · obtain rfl : i = n := by omega
        have HB := Lib.hid hb
        have HS := Lib.hid hs
        clear hb hs
        go_wp2
        go_ret
        exact QuietB.of (eqVals_yes H.out.1 H'.out.1 HS.out) HB.out
  · have HL := Lib.hid (eqVals_len h.1 h'.1 hl)
    clear h h'
    have hl' : ¬ (n : Int) = (n' : Int) := by omega
    go_enter Try.func157, Try.ntmps157
    go_wp2
    go_ret
    exact QuietB.of HL.out (Drewn.refl _)
section
variable {L M : List Dat} {A B : Option Addr} {n c m k : Nat} {w : World}
theorem specEqVDQ (h : Lies w (.l L) [.slice A n c]) (h' : Lies w (.l M) [.slice B m k]) (ht : ∀ x ∈ L, Has tyValue x) (ht' : ∀ x ∈ M, Has tyValue x) (hn : n ≤ 1099511627776) (b : Bool) (hb : eqD L M = b) :
    Calls Try.prog 157 #[.slice A n c, .slice B m k] w (fun e w' => e = .returned (.bool b) ∧ ∃ m, w' = w.drewN m) := by
  subst hb
  have := specEqVQ A B n m c k (vs L) (vs M) w (h.vals ht) (h'.vals ht') hn
  rwa [eqVals_eqD ht ht'] at this
end
end Go.Proofs.Ytmeacgpebpfpbaa
