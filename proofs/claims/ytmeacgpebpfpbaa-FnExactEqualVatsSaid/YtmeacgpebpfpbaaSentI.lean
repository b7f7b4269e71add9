/- The program's EqualSents. -/
import Derived.Test.YtmeacgpebpfpbaaEqS9
import Derived.LoopTactic
import Derived.Lib.Hide
import Derived.Deep.QuietTactic
import Derived.BigQuiet
import Derived.Deep.RegionWith
import Derived.Handy
namespace Go.Proofs.Ytmeacgpebpfpbaa
open Go.RowKit
set_option linter.unusedVariables false
set_option linter.unusedSimpArgs false
set_option maxRecDepth 100000 in
set_option maxHeartbeats 4000000 in
theorem eqSentsI (L M : List Dat) (A B : Option Addr) (n c m k : Nat) (w : World) (h : Lies w (.l L) [.slice A n c]) (h' : Lies w (.l M) [.slice B m k]) (ht : ∀ x ∈ L, Has tySent x) (ht' : ∀ x ∈ M, Has tySent x) (hq : (Dat.l L).bulk ≤ 1099511627776) (hm : m ≤ 9223372036854775807) :
    Calls Try.prog 128 #[.slice A n c, .slice B m k, .func (.func 129) #[] #[]] w (GivesBool (eqD L M) w) := by
  have H := Lib.hid h
  have H' := Lib.hid h'
  have HT := Lib.hid ht
  have HT' := Lib.hid ht'
  have HC := Lib.hid h.count
  have HC' := Lib.hid h'.count
  have HQ := Lib.hid hq
  have hn : n ≤ 1099511627776 := by have := h.count; simp only [Dat.bulk] at hq; omega
  clear h h' ht ht' hq
  by_cases hnm : n = m
  · subst hnm
    go_enter Try.func128, Try.ntmps128
    go_wp2
    go_loopw [17] (fun iv wr => ∃ i : Nat, i ≤ n ∧ iv = .int .i64 i ∧ L.take i = M.take i ∧ Below w.heap.size w wr) (fun iv _ => n - (intOf iv).toNat)
    case atStart => exact ⟨0, Nat.zero_le _, rfl, rfl, Below.refl _ _⟩
    case round =>
      obtain ⟨i, hin, rfl, hal, hb⟩ := hrel
      have HB := Lib.hid hb
      have HA := Lib.hid hal
      clear hb hal
      by_cases hlt : i < n
      · obtain ⟨b, off, d, xs, rfl, hbw, hzi, hlie, hlen, hcellr⟩ := (H.out.below HB.out).elem (fun x hx => (HT.out x hx).width) hlt
        obtain ⟨b', off', d', xs', rfl, hbw', hzi', hlie', hlen', hcells⟩ := (H'.out.below HB.out).elem (fun x hx => (HT'.out x hx).width) hlt
        obtain ⟨g0, g1, M2, B2, m2, k2, g3, g4_0, g4_1, g4_2, rfl, rfl, _hg1, hr2, hu2, hv2⟩ := invSent (HT'.out d' (List.mem_of_getElem? hzi')) hlie'
        obtain ⟨f0, f1, L2, A2, n2, c2, f3, f4_0, f4_1, f4_2, rfl, rfl, hf1, hl2, ht2, hm2⟩ := invSent (HT.out d (List.mem_of_getElem? hzi)) hlie
        have hn2 : n2 ≤ 1099511627776 := by have h1 := bulk_mem (List.mem_of_getElem? hzi); have h2 := hl2.count; have h3 := HQ.out; simp only [Dat.bulk, bulkAll] at h1 h3; omega
        have r0 : wr.cell? ⟨b, off + i * 7, none⟩ = some (.int .i64 f0) := hcellr 0 _ rfl
        have r1 : wr.cell? ⟨b, off + i * 7 + 1, none⟩ = some (.string f1) := hcellr 1 _ rfl
        have r2 : wr.cell? ⟨b, off + i * 7 + 2, none⟩ = some (.slice A2 n2 c2) := hcellr 2 _ rfl
        have r3 : wr.cell? ⟨b, off + i * 7 + 3, none⟩ = some (.int .i64 f3) := hcellr 3 _ rfl
        have r4 : wr.cell? ⟨b, off + i * 7 + 4, none⟩ = some (.int .i64 f4_0) := hcellr 4 _ rfl
        have r5 : wr.cell? ⟨b, off + i * 7 + 5, none⟩ = some (.int .i64 f4_1) := hcellr 5 _ rfl
        have r6 : wr.cell? ⟨b, off + i * 7 + 6, none⟩ = some (.int .i64 f4_2) := hcellr 6 _ rfl
        have s0 : wr.cell? ⟨b', off' + i * 7, none⟩ = some (.int .i64 g0) := hcells 0 _ rfl
        have s1 : wr.cell? ⟨b', off' + i * 7 + 1, none⟩ = some (.string g1) := hcells 1 _ rfl
        have s2 : wr.cell? ⟨b', off' + i * 7 + 2, none⟩ = some (.slice B2 m2 k2) := hcells 2 _ rfl
        have s3 : wr.cell? ⟨b', off' + i * 7 + 3, none⟩ = some (.int .i64 g3) := hcells 3 _ rfl
        have s4 : wr.cell? ⟨b', off' + i * 7 + 4, none⟩ = some (.int .i64 g4_0) := hcells 4 _ rfl
        have s5 : wr.cell? ⟨b', off' + i * 7 + 5, none⟩ = some (.int .i64 g4_1) := hcells 5 _ rfl
        have s6 : wr.cell? ⟨b', off' + i * 7 + 6, none⟩ = some (.int .i64 g4_2) := hcells 6 _ rfl
        have S0 : Hid (∀ o, (wr.alloc o).cell? ⟨b', off' + i * 7, none⟩ = some (.int .i64 g0) ∧ (wr.alloc o).cell? ⟨b', off' + i * 7 + 1, none⟩ = some (.string g1) ∧ (wr.alloc o).cell? ⟨b', off' + i * 7 + 2, none⟩ = some (.slice B2 m2 k2) ∧ (wr.alloc o).cell? ⟨b', off' + i * 7 + 3, none⟩ = some (.int .i64 g3) ∧ (wr.alloc o).cell? ⟨b', off' + i * 7 + 4, none⟩ = some (.int .i64 g4_0) ∧ (wr.alloc o).cell? ⟨b', off' + i * 7 + 5, none⟩ = some (.int .i64 g4_1) ∧ (wr.alloc o).cell? ⟨b', off' + i * 7 + 6, none⟩ = some (.int .i64 g4_2)) := Lib.hid (fun o => ⟨(((Below.refl wr.heap.size wr).alloc (Nat.le_refl _) o).cell (p := ⟨b', off' + i * 7, none⟩) hbw').trans s0, (((Below.refl wr.heap.size wr).alloc (Nat.le_refl _) o).cell (p := ⟨b', off' + i * 7 + 1, none⟩) hbw').trans s1, (((Below.refl wr.heap.size wr).alloc (Nat.le_refl _) o).cell (p := ⟨b', off' + i * 7 + 2, none⟩) hbw').trans s2, (((Below.refl wr.heap.size wr).alloc (Nat.le_refl _) o).cell (p := ⟨b', off' + i * 7 + 3, none⟩) hbw').trans s3, (((Below.refl wr.heap.size wr).alloc (Nat.le_refl _) o).cell (p := ⟨b', off' + i * 7 + 4, none⟩) hbw').trans s4, (((Below.refl wr.heap.size wr).alloc (Nat.le_refl _) o).cell (p := ⟨b', off' + i * 7 + 5, none⟩) hbw').trans s5, (((Below.refl wr.heap.size wr).alloc (Nat.le_refl _) o).cell (p := ⟨b', off' + i * 7 + 6, none⟩) hbw').trans s6⟩)
        obtain ⟨t0, t1, t2, t3, t4, t5, t6⟩ := S0.out (.cells #[.int .i64 f0, .string f1, .slice A2 n2 c2, .int .i64 f3, .int .i64 f4_0, .int .i64 f4_1, .int .i64 f4_2] 153)
        have B0 : Hid (Below wr.heap.size wr ((wr.alloc (.cells #[.int .i64 f0, .string f1, .slice A2 n2 c2, .int .i64 f3, .int .i64 f4_0, .int .i64 f4_1, .int .i64 f4_2] 153)).alloc (.cells #[.int .i64 g0, .string g1, .slice B2 m2 k2, .int .i64 g3, .int .i64 g4_0, .int .i64 g4_1, .int .i64 g4_2] 153))) := Lib.hid (by go_grown)
        have HZ := Lib.hid hzi
        have HZ' := Lib.hid hzi'
        have HL2 := Lib.hid (hl2.below B0.out)
        have HR2 := Lib.hid (hr2.below B0.out)
        have HT2 := Lib.hid ht2
        have HU2 := Lib.hid hu2
        clear hzi hzi' hcellr hcells hlie hlie' hl2 hr2 ht2 hu2 S0 s0 s1 s2 s3 s4 s5 s6
        obtain ⟨v, hv⟩ : ∃ v, eq1 (.r [.i f0, .s f1, .l L2, .i f3, .r [.i f4_0, .i f4_1, .i f4_2]]) (.r [.i g0, .s g1, .l M2, .i g3, .r [.i g4_0, .i g4_1, .i g4_2]]) = v := ⟨_, rfl⟩
        have HV := Lib.hid hv
        clear hv
        go_wp2_with fail
        refine (implEqSent f0 f1 L2 A2 n2 c2 f3 f4_0 f4_1 f4_2 g0 g1 M2 B2 m2 k2 g3 g4_0 g4_1 g4_2 _ HL2.out HR2.out HT2.out HU2.out hn2).mono ?_
        rintro e w2 ⟨rfl, hb⟩
        rw [HV.out]
        have HB2 := Lib.hid (HB.out.trans ((B0.out.trans (hb.mono B0.out.size)).mono HB.out.size))
        clear hb
        cases v with
        | true =>
          have HN : Hid (L.take (i + 1) = M.take (i + 1)) := Lib.hid (take_nextD HA.out HZ.out (by rw [eq1_iff.1 HV.out]; exact HZ'.out))
          go_wp2_with fail
          go_roundw
          case rel => exact ⟨i + 1, by omega, by go_num, HN.out, HB2.out⟩
          case measure => simp [intOf]; omega
        | false =>
          have HN : Hid (false = eqD L M) := Lib.hid (eqD_at HZ.out HZ'.out (fun e => by rw [e, eq1_yes] at HV; cases HV.out)).symm
          go_wp2_with fail
          go_ret
          exact GivesBool.of HN.out HB2.out
      · obtain rfl : i = n := by omega
        have HN := Lib.hid (eqD_all HC.out HC'.out HA.out).symm
        go_wp2
        go_ret
        exact GivesBool.of HN.out HB.out
  · have HN := Lib.hid (eqD_len HC.out HC'.out hnm).symm
    go_enter Try.func128, Try.ntmps128
    go_wp2
    go_ret
    exact GivesBool.of HN.out (Below.refl _ _)
theorem implEqSents (L M : List Dat) (A B : Option Addr) (n c m k : Nat) (w : World) (h : Lies w (.l L) [.slice A n c]) (h' : Lies w (.l M) [.slice B m k]) (ht : ∀ x ∈ L, Has tySent x) (ht' : ∀ x ∈ M, Has tySent x) (hq : (Dat.l L).bulk ≤ 1099511627776) (hm : m ≤ 9223372036854775807) :
    Calls Try.prog 62 #[.slice A n c, .slice B m k] w (GivesBool (eqD L M) w) := by
  have H := Lib.hid h
  have H' := Lib.hid h'
  have HT := Lib.hid ht
  have HT' := Lib.hid ht'
  clear h h' ht ht'
  go_enter Try.func62, Try.ntmps62
  go_wp2_with fail
  refine (eqSentsI L M A B n c m k _ H.out H'.out HT.out HT'.out hq hm).mono ?_
  rintro e w2 ⟨rfl, hb⟩
  have HB := Lib.hid hb
  clear hb
  go_wp2_with fail
  go_ret
  exact GivesBool.ret HB.out
end Go.Proofs.Ytmeacgpebpfpbaa
