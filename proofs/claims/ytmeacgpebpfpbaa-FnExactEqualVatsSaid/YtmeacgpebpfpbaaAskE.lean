/- The program's comparison of askers. -/
import Derived.Test.YtmeacgpebpfpbaaEntV
import Derived.LoopTactic
import Derived.Lib.Hide
import Derived.Deep.QuietTactic
import Derived.BigQuiet
import Derived.Deep.RegionWith
namespace Go.Proofs.Ytmeacgpebpfpbaa
open Go.RowKit
set_option linter.unusedVariables false
set_option maxRecDepth 100000 in
set_option maxHeartbeats 1000000 in
theorem slEqAS (A A' : Option Addr) (n n' c c' : Nat) (L L' : List V) (w : World) (h : FR layV w A n L) (h' : FR layV w A' n' L') (hn : n ≤ 1099511627776) :
    Calls Try.prog 68 #[.slice A n c, .slice A' n' c'] w (GivesBool (eqVals L L') w) := by
  by_cases hl : n = n'
  · subst hl
    have H := Lib.hid h
    have H' := Lib.hid h'
    clear h h'
    go_enter Try.func68, Try.ntmps68
    go_wp2
    go_loopw [13] (fun iv wr => ∃ i : Nat, i ≤ n ∧ iv = .int .i64 i ∧ L.take i = L'.take i ∧ Below w.heap.size w wr) (fun iv _ => n - (intOf iv).toNat)
    case atStart => exact ⟨0, Nat.zero_le _, rfl, rfl, Below.refl _ _⟩
    case round =>
      obtain ⟨i, hin, rfl, hs, hb⟩ := hrel
      by_cases hlt : i < n
      · obtain ⟨b, off, x, rfl, hbw, hzi, hcell⟩ := (H.out.below hb).at_ hlt
        obtain ⟨b', off', x', rfl, hbw', hzi', hcell'⟩ := (H'.out.below hb).at_ hlt
        have hc0 : wr.cell? ⟨b, off + i * 2, none⟩ = some (.int .i64 x.kind) := hcell 0 _ rfl
        have hc1 : wr.cell? ⟨b, off + i * 2 + 1, none⟩ = some (.int .i64 x.n) := hcell 1 _ rfl
        have hc0' : wr.cell? ⟨b', off' + i * 2, none⟩ = some (.int .i64 x'.kind) := hcell' 0 _ rfl
        have hc1' : wr.cell? ⟨b', off' + i * 2 + 1, none⟩ = some (.int .i64 x'.n) := hcell' 1 _ rfl
        have HB := Lib.hid hb
        have HS := Lib.hid hs
        have HZ := Lib.hid hzi
        have HZ' := Lib.hid hzi'
        clear hzi hzi' hb hs hcell hcell'
        by_cases hz : x = x'
        · subst hz
          go_wp2
          go_quiet (fail)
          go_wp2
          go_roundw
          case rel => exact ⟨i + 1, by omega, by go_num, take_nextV HS.out HZ.out HZ'.out, below_drewN HB.out _⟩
          case measure => simp [intOf]; omega
        · have HE := Lib.hid (eqVals_at HZ.out HZ'.out hz)
          obtain ⟨k, m⟩ := x
          obtain ⟨k', m'⟩ := x'
          have hkm : ¬ (k = k' ∧ m = m') := fun e => hz (by rw [e.1, e.2])
          clear hz
          by_cases hk : k = k'
          · subst hk
            have hm : ¬ m = m' := fun e => hkm ⟨rfl, e⟩
            clear hkm
            go_wp2
            go_quiet (fail)
            go_wp2
            go_ret
            exact GivesBool.of HE.out (below_drewN HB.out _)
          · clear hkm
            go_wp2
            go_quiet (fail)
            go_wp2
            go_ret
            exact GivesBool.of HE.out (below_drewN HB.out _)
      · obtain rfl : i = n := by omega
        have HB := Lib.hid hb
        have HS := Lib.hid hs
        clear hb hs
        go_wp2
        go_ret
        exact GivesBool.of (eqVals_yes H.out.1 H'.out.1 HS.out) HB.out
  · have HL := Lib.hid (eqVals_len h.1 h'.1 hl)
    clear h h'
    have hl' : ¬ (n : Int) = (n' : Int) := by omega
    go_enter Try.func68, Try.ntmps68
    go_wp2
    go_ret
    exact GivesBool.of HL.out (Below.refl _ _)
theorem slEqAD {L M : List Dat} {A B : Option Addr} {n c m k : Nat} {w : World} (h : Lies w (.l L) [.slice A n c]) (h' : Lies w (.l M) [.slice B m k]) (ht : ∀ x ∈ L, Has tyAsker x) (ht' : ∀ x ∈ M, Has tyAsker x) (hn : n ≤ 1099511627776) :
    Calls Try.prog 68 #[.slice A n c, .slice B m k] w (GivesBool (eqD L M) w) := by
  have h1 : ∀ x ∈ L, Has tyValue x := ht
  have h2 : ∀ x ∈ M, Has tyValue x := ht'
  have := slEqAS A B n m c k (vs L) (vs M) w (h.vals h1) (h'.vals h2) hn
  rwa [eqVals_eqD h1 h2] at this
end Go.Proofs.Ytmeacgpebpfpbaa
