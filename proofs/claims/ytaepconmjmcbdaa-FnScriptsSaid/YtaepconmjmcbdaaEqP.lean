/- The program's chapter 6: equality. -/
import Derived.Test.YtaepconmjmcbdaaImpI
import Derived.Test.YtaepconmjmcbdaaEqC
import Derived.Deep.RegionHeld3
namespace Go.Proofs.Ytaepconmjmcbdaa
open Go.RowKit
set_option linter.unusedVariables false
set_option linter.unusedSimpArgs false
set_option maxRecDepth 100000 in
set_option maxHeartbeats 4000000 in
theorem eqCodeI (L M : List Dat) (A B : Option Addr) (n c m k : Nat) (w : World) (h : Lies w (.l L) [.slice A n c]) (h' : Lies w (.l M) [.slice B m k]) (ht : ∀ x ∈ L, Has tyInstr x) (ht' : ∀ x ∈ M, Has tyInstr x) (hn : n ≤ 9223372036854775807) (hm : m ≤ 9223372036854775807) :
    Calls Try.prog 82 #[.slice A n c, .slice B m k] w (GivesBool (sameL eqInsD L M) w) := by
  have H := Lib.hid h
  have H' := Lib.hid h'
  have HT := Lib.hid ht
  have HT' := Lib.hid ht'
  have HC := Lib.hid h.count
  have HC' := Lib.hid h'.count
  clear h h' ht ht'
  by_cases hnm : n = m
  · subst hnm
    go_enter Try.func82, Try.ntmps82
    go_wp2
    go_loopw [13] (fun iv wr => ∃ i : Nat, i ≤ n ∧ iv = .int .i64 i ∧ Alike eqInsD L M i ∧ Below w.heap.size w wr) (fun iv _ => n - (intOf iv).toNat)
    case atStart => exact ⟨0, Nat.zero_le _, rfl, Alike.zero _ _ _, Below.refl _ _⟩
    case round =>
      obtain ⟨i, hin, rfl, hal, hb⟩ := hrel
      have HB := Lib.hid hb
      have HA := Lib.hid hal
      clear hb hal
      by_cases hlt : i < n
      · obtain ⟨b, off, d, xs, rfl, hbw, hzi, hlie, hlen, hcellr⟩ := (H.out.below HB.out).elem (fun x hx => (HT.out x hx).width) hlt
        obtain ⟨b', off', d', xs', rfl, hbw', hzi', hlie', hlen', hcells⟩ := (H'.out.below HB.out).elem (fun x hx => (HT'.out x hx).width) hlt
        obtain ⟨g0, g1, g2, g3, g4, g5, hdd', rfl, _hf5⟩ := invInstr (HT'.out d' (List.mem_of_getElem? hzi')) hlie'
        obtain ⟨f0, f1, f2, f3, f4, f5, hdd, rfl, hf5⟩ := invInstr (HT.out d (List.mem_of_getElem? hzi)) hlie
        have r0 : wr.cell? ⟨b, off + i * 6, none⟩ = some (.int .i64 f0) := hcellr 0 _ rfl
        have r1 : wr.cell? ⟨b, off + i * 6 + 1, none⟩ = some (.int .i64 f1) := hcellr 1 _ rfl
        have r2 : wr.cell? ⟨b, off + i * 6 + 2, none⟩ = some (.int .i64 f2) := hcellr 2 _ rfl
        have r3 : wr.cell? ⟨b, off + i * 6 + 3, none⟩ = some (.int .i64 f3) := hcellr 3 _ rfl
        have r4 : wr.cell? ⟨b, off + i * 6 + 4, none⟩ = some (.int .i64 f4) := hcellr 4 _ rfl
        have r5 : wr.cell? ⟨b, off + i * 6 + 5, none⟩ = some (.string f5) := hcellr 5 _ rfl
        have s0 : wr.cell? ⟨b', off' + i * 6, none⟩ = some (.int .i64 g0) := hcells 0 _ rfl
        have s1 : wr.cell? ⟨b', off' + i * 6 + 1, none⟩ = some (.int .i64 g1) := hcells 1 _ rfl
        have s2 : wr.cell? ⟨b', off' + i * 6 + 2, none⟩ = some (.int .i64 g2) := hcells 2 _ rfl
        have s3 : wr.cell? ⟨b', off' + i * 6 + 3, none⟩ = some (.int .i64 g3) := hcells 3 _ rfl
        have s4 : wr.cell? ⟨b', off' + i * 6 + 4, none⟩ = some (.int .i64 g4) := hcells 4 _ rfl
        have s5 : wr.cell? ⟨b', off' + i * 6 + 5, none⟩ = some (.string g5) := hcells 5 _ rfl
        have HZ := Lib.hid hzi
        have HZ' := Lib.hid hzi'
        clear hzi hzi' hcellr hcells hlie hlie'
        obtain ⟨v, hv⟩ : ∃ v, eqIns ⟨f0, f1, f2, f3, f4, f5⟩ ⟨g0, g1, g2, g3, g4, g5⟩ = v := ⟨_, rfl⟩
        have HV := Lib.hid hv
        have HE : Hid (eqInsD d d' = v) := Lib.hid (by rw [hdd, hdd']; exact hv)
        clear hdd hdd' hv
        go_wp2
        refine wp_region_quiet_lit (by kernel_rfl) (by kernel_rfl) ?_
        repeat (first
          | (refine BigFrame.wpQuiet_want (by rfl) (fun K hK => ?_); refine quiet_neq_ins rfl _ _ _ rfl rfl rfl v HV.out ?_; refine hK _ ?_; clear hK K)
          | quiet_step (fail))
        refine wpQuiet_nil ?_
        intro _ hw'
        obtain ⟨nq, hw''⟩ := hw'
        subst hw''
        cases v with
        | true =>
          have HN := Lib.hid (HA.out.next HZ.out HZ'.out HE.out)
          go_wp2
          go_roundw
          case rel => exact ⟨i + 1, by omega, by go_num, HN.out, below_drewN HB.out _⟩
          case measure => simp [intOf]; omega
        | false =>
          have HN := Lib.hid (sameL_no HZ.out HZ'.out HE.out).symm
          go_wp2
          go_ret
          exact GivesBool.of HN.out (below_drewN HB.out _)
      · obtain rfl : i = n := by omega
        have HN := Lib.hid (HA.out.all HC.out HC'.out).symm
        go_wp2
        go_ret
        exact GivesBool.of HN.out HB.out
  · have HN := Lib.hid (sameL_len (p := eqInsD) (L := L) (M := M) (by rw [HC.out, HC'.out]; exact hnm)).symm
    go_enter Try.func82, Try.ntmps82
    go_wp2
    go_ret
    exact GivesBool.of HN.out (Below.refl _ _)

theorem meth_eq {d d' : Dat} {f0 g0 : ByteArray} {L M : List Dat} (hd : d = .r [.s f0, .l L]) (hd' : d' = .r [.s g0, .l M]) : eqMethD d d' = (decide (f0 = g0) && sameL eqInsD L M) := by subst hd hd'; rfl
theorem scr_eq {d d' : Dat} {f0 g0 : ByteArray} {L M : List Dat} (hd : d = .r [.s f0, .l L]) (hd' : d' = .r [.s g0, .l M]) : eqScrD d d' = (decide (f0 = g0) && sameL eqMethD L M) := by subst hd hd'; rfl

set_option maxHeartbeats 2000000 in
theorem eqMethI (d d' : Dat) (f0 : ByteArray) (L1 : List Dat) (A1 : Option Addr) (n1 c1 : Nat) (g0 : ByteArray) (M1 : List Dat) (B1 : Option Addr) (m1 k1 : Nat) (w : World) (hd : d = .r [.s f0, .l L1]) (hd' : d' = .r [.s g0, .l M1]) (hl : Lies w (.l L1) [.slice A1 n1 c1]) (hr : Lies w (.l M1) [.slice B1 m1 k1])
    (ht : ∀ x ∈ L1, Has tyInstr x) (ht' : ∀ x ∈ M1, Has tyInstr x) (hn : n1 ≤ 9223372036854775807) (hm : m1 ≤ 9223372036854775807) : Calls Try.prog 56 #[.agg #[.string f0, .slice A1 n1 c1], .agg #[.string g0, .slice B1 m1 k1]] w (GivesBool (eqMethD d d') w) := by
  have B0 : Hid (Below w.heap.size w ((w.alloc (.cells #[.string f0, .slice A1 n1 c1] 29)).alloc (.cells #[.string g0, .slice B1 m1 k1] 29))) := Lib.hid (by go_grown)
  have HL := Lib.hid (hl.below B0.out)
  have HR := Lib.hid (hr.below B0.out)
  have HT := Lib.hid ht
  have HT' := Lib.hid ht'
  have HE := Lib.hid (meth_eq hd hd')
  clear hl hr ht ht' hd hd'
  by_cases he : f0 = g0
  · subst he
    go_enter Try.func56, Try.ntmps56
    go_wp2_with fail
    refine (eqCodeI L1 M1 A1 B1 n1 c1 m1 k1 _ HL.out HR.out HT.out HT'.out hn hm).mono ?_
    rintro e w2 ⟨rfl, hb⟩
    have HB := Lib.hid (B0.out.trans (hb.mono B0.out.size))
    clear hb
    go_wp2_with fail
    go_ret
    exact GivesBool.of (by rw [HE.out]; simp) HB.out
  · have he1 := bytes_ne he
    have he2 := bytes_neb he
    have HN : Hid (false = eqMethD d d') := Lib.hid (by rw [HE.out, decide_eq_false he]; rfl)
    clear he
    go_enter Try.func56, Try.ntmps56
    go_wp2_with fail
    go_ret
    exact GivesBool.of HN.out B0.out

set_option maxRecDepth 100000 in
set_option maxHeartbeats 4000000 in
theorem eqMethsI (L M : List Dat) (A B : Option Addr) (n c m k : Nat) (w : World) (h : Lies w (.l L) [.slice A n c]) (h' : Lies w (.l M) [.slice B m k]) (ht : ∀ x ∈ L, Has tyMethod x) (ht' : ∀ x ∈ M, Has tyMethod x) (hn : n ≤ 9223372036854775807) (hm : m ≤ 9223372036854775807) :
    Calls Try.prog 55 #[.slice A n c, .slice B m k, .func (.func 56) #[] #[]] w (GivesBool (sameL eqMethD L M) w) := by
  have H := Lib.hid h
  have H' := Lib.hid h'
  have HT := Lib.hid ht
  have HT' := Lib.hid ht'
  have HC := Lib.hid h.count
  have HC' := Lib.hid h'.count
  clear h h' ht ht'
  by_cases hnm : n = m
  · subst hnm
    go_enter Try.func55, Try.ntmps55
    go_wp2
    go_loopw [17] (fun iv wr => ∃ i : Nat, i ≤ n ∧ iv = .int .i64 i ∧ Alike eqMethD L M i ∧ Below w.heap.size w wr) (fun iv _ => n - (intOf iv).toNat)
    case atStart => exact ⟨0, Nat.zero_le _, rfl, Alike.zero _ _ _, Below.refl _ _⟩
    case round =>
      obtain ⟨i, hin, rfl, hal, hb⟩ := hrel
      have HB := Lib.hid hb
      have HA := Lib.hid hal
      clear hb hal
      by_cases hlt : i < n
      · obtain ⟨b, off, d, xs, rfl, hbw, hzi, hlie, hlen, hcellr⟩ := (H.out.below HB.out).elem (fun x hx => (HT.out x hx).width) hlt
        obtain ⟨b', off', d', xs', rfl, hbw', hzi', hlie', hlen', hcells⟩ := (H'.out.below HB.out).elem (fun x hx => (HT'.out x hx).width) hlt
        obtain ⟨g0, M1, B1, m1, k1, hdd', rfl, _hg0, hr1, hu1, hv1⟩ := invMethod (HT'.out d' (List.mem_of_getElem? hzi')) hlie'
        obtain ⟨f0, L1, A1, n1, c1, hdd, rfl, hf0, hl1, ht1, hm1⟩ := invMethod (HT.out d (List.mem_of_getElem? hzi)) hlie
        have r0 : wr.cell? ⟨b, off + i * 2, none⟩ = some (.string f0) := hcellr 0 _ rfl
        have r1 : wr.cell? ⟨b, off + i * 2 + 1, none⟩ = some (.slice A1 n1 c1) := hcellr 1 _ rfl
        have s0 : wr.cell? ⟨b', off' + i * 2, none⟩ = some (.string g0) := hcells 0 _ rfl
        have s1 : wr.cell? ⟨b', off' + i * 2 + 1, none⟩ = some (.slice B1 m1 k1) := hcells 1 _ rfl
        have S0 : Hid (∀ o, (wr.alloc o).cell? ⟨b', off' + i * 2, none⟩ = some (.string g0) ∧ (wr.alloc o).cell? ⟨b', off' + i * 2 + 1, none⟩ = some (.slice B1 m1 k1)) := Lib.hid (fun o => ⟨(((Below.refl wr.heap.size wr).alloc (Nat.le_refl _) o).cell (p := ⟨b', off' + i * 2, none⟩) hbw').trans s0, (((Below.refl wr.heap.size wr).alloc (Nat.le_refl _) o).cell (p := ⟨b', off' + i * 2 + 1, none⟩) hbw').trans s1⟩)
        obtain ⟨t0, t1⟩ := S0.out (.cells #[.string f0, .slice A1 n1 c1] 29)
        have B2 : Hid (Below wr.heap.size wr ((wr.alloc (.cells #[.string f0, .slice A1 n1 c1] 29)).alloc (.cells #[.string g0, .slice B1 m1 k1] 29))) := Lib.hid (by go_grown)
        have HZ := Lib.hid hzi
        have HZ' := Lib.hid hzi'
        have HD := Lib.hid hdd
        have HD' := Lib.hid hdd'
        have HL1 := Lib.hid (hl1.below B2.out)
        have HR1 := Lib.hid (hr1.below B2.out)
        have HT1 := Lib.hid ht1
        have HU1 := Lib.hid hu1
        clear hzi hzi' hcellr hcells hlie hlie' hdd hdd' hl1 hr1 ht1 hu1 S0 s0 s1
        obtain ⟨v, hv⟩ : ∃ v, eqMethD d d' = v := ⟨_, rfl⟩
        have HV := Lib.hid hv
        clear hv
        go_wp2_with fail
        refine (eqMethI d d' f0 L1 A1 n1 c1 g0 M1 B1 m1 k1 _ HD.out HD'.out HL1.out HR1.out HT1.out HU1.out hm1 hv1).mono ?_
        rintro e w2 ⟨rfl, hb⟩
        rw [HV.out]
        have HB2 := Lib.hid (HB.out.trans ((B2.out.trans (hb.mono B2.out.size)).mono HB.out.size))
        clear hb
        cases v with
        | true =>
          have HN := Lib.hid (HA.out.next HZ.out HZ'.out HV.out)
          go_wp2_with fail
          go_roundw
          case rel => exact ⟨i + 1, by omega, by go_num, HN.out, HB2.out⟩
          case measure => simp [intOf]; omega
        | false =>
          have HN := Lib.hid (sameL_no HZ.out HZ'.out HV.out).symm
          go_wp2_with fail
          go_ret
          exact GivesBool.of HN.out HB2.out
      · obtain rfl : i = n := by omega
        have HN := Lib.hid (HA.out.all HC.out HC'.out).symm
        go_wp2
        go_ret
        exact GivesBool.of HN.out HB.out
  · have HN := Lib.hid (sameL_len (p := eqMethD) (L := L) (M := M) (by rw [HC.out, HC'.out]; exact hnm)).symm
    go_enter Try.func55, Try.ntmps55
    go_wp2
    go_ret
    exact GivesBool.of HN.out (Below.refl _ _)

set_option maxHeartbeats 2000000 in
theorem implEqScr (d d' : Dat) (f0 : ByteArray) (L1 : List Dat) (A1 : Option Addr) (n1 c1 : Nat) (g0 : ByteArray) (M1 : List Dat) (B1 : Option Addr) (m1 k1 : Nat) (w : World) (hd : d = .r [.s f0, .l L1]) (hd' : d' = .r [.s g0, .l M1]) (hl : Lies w (.l L1) [.slice A1 n1 c1]) (hr : Lies w (.l M1) [.slice B1 m1 k1])
    (ht : ∀ x ∈ L1, Has tyMethod x) (ht' : ∀ x ∈ M1, Has tyMethod x) (hn : n1 ≤ 9223372036854775807) (hm : m1 ≤ 9223372036854775807) : Calls Try.prog 19 #[.agg #[.string f0, .slice A1 n1 c1], .agg #[.string g0, .slice B1 m1 k1]] w (GivesBool (eqScrD d d') w) := by
  have B0 : Hid (Below w.heap.size w ((w.alloc (.cells #[.string f0, .slice A1 n1 c1] 34)).alloc (.cells #[.string g0, .slice B1 m1 k1] 34))) := Lib.hid (by go_grown)
  have HL := Lib.hid (hl.below B0.out)
  have HR := Lib.hid (hr.below B0.out)
  have HT := Lib.hid ht
  have HT' := Lib.hid ht'
  have HE := Lib.hid (scr_eq hd hd')
  clear hl hr ht ht' hd hd'
  by_cases he : f0 = g0
  · subst he
    go_enter Try.func19, Try.ntmps19
    go_wp2_with fail
    refine (eqMethsI L1 M1 A1 B1 n1 c1 m1 k1 _ HL.out HR.out HT.out HT'.out hn hm).mono ?_
    rintro e w2 ⟨rfl, hb⟩
    have HB := Lib.hid (B0.out.trans (hb.mono B0.out.size))
    clear hb
    go_wp2_with fail
    go_ret
    exact GivesBool.of (by rw [HE.out]; simp) HB.out
  · have he1 := bytes_ne he
    have he2 := bytes_neb he
    have HN : Hid (false = eqScrD d d') := Lib.hid (by rw [HE.out, decide_eq_false he]; rfl)
    clear he
    go_enter Try.func19, Try.ntmps19
    go_wp2_with fail
    go_ret
    exact GivesBool.of HN.out B0.out
end Go.Proofs.Ytaepconmjmcbdaa
