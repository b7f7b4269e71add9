/- The reference's chapter 6: EqualScripts. -/
import Derived.Test.YtaepconmjmcbdaaEqP
import Derived.Test.YtaepconmjmcbdaaSpecS2
namespace Go.Proofs.Ytaepconmjmcbdaa
open Go.RowKit
set_option linter.unusedVariables false
set_option linter.unusedSimpArgs false
/-- Two boxes of two cells, side by side. -/
def Two2 (w : World) (x0 x1 y0 y1 : Value) (w' : World) : Prop := Box w.heap.size [x0, x1] w' ∧ Box (w.heap.size + 1) [y0, y1] w' ∧ Below w.heap.size w w'
section
variable {w w1 w2 : World} {x0 x1 y0 y1 : Value}
theorem Two2.mk_ (w : World) (x0 x1 y0 y1 : Value) (T U : TypeId) : Two2 w x0 x1 y0 y1 ((w.alloc (.cells #[x0, x1] T)).alloc (.cells #[y0, y1] U)) := by
  refine ⟨(Box.new w #[x0, x1] T).alloc _, ?_, by go_grown⟩
  have := Box.new (w.alloc (.cells #[x0, x1] T)) #[y0, y1] U
  rw [World.size_alloc] at this
  exact this
theorem Two2.below (h : Two2 w x0 x1 y0 y1 w1) (hb : Below w1.heap.size w1 w2) : Two2 w x0 x1 y0 y1 w2 := ⟨h.1.below hb, h.2.1.below hb, h.2.2.trans (hb.mono h.2.2.size)⟩
theorem Two2.four (h : Two2 w x0 x1 y0 y1 w1) : w1.cell? ⟨w.heap.size, 0, none⟩ = some x0 ∧ w1.cell? ⟨w.heap.size, 1, none⟩ = some x1 ∧ w1.cell? ⟨w.heap.size + 1, 0, none⟩ = some y0 ∧ w1.cell? ⟨w.heap.size + 1, 1, none⟩ = some y1 :=
  ⟨h.1.2 0 _ rfl, h.1.2 1 _ rfl, h.2.1.2 0 _ rfl, h.2.1.2 1 _ rfl⟩
theorem Two2.drewN (h : Two2 w x0 x1 y0 y1 w1) (n : Nat) : Two2 w x0 x1 y0 y1 (w1.drewN n) := ⟨h.1, h.2.1, below_drewN h.2.2 n⟩
end
theorem meth_no_name {d d' : Dat} {f0 g0 : ByteArray} {L M : List Dat} (hd : d = .r [.s f0, .l L]) (hd' : d' = .r [.s g0, .l M]) (h : ¬ f0 = g0) : eqMethD d d' = false := by rw [meth_eq hd hd', decide_eq_false h]; rfl
theorem meth_no_code {d d' : Dat} {f0 g0 : ByteArray} {L M : List Dat} (hd : d = .r [.s f0, .l L]) (hd' : d' = .r [.s g0, .l M]) (h : sameL eqInsD L M = false) : eqMethD d d' = false := by rw [meth_eq hd hd', h, Bool.and_false]
theorem meth_yes {d d' : Dat} {f0 : ByteArray} {L M : List Dat} (hd : d = .r [.s f0, .l L]) (hd' : d' = .r [.s f0, .l M]) (h : sameL eqInsD L M = true) : eqMethD d d' = true := by rw [meth_eq hd hd', h]; simp
set_option maxRecDepth 100000 in
set_option maxHeartbeats 16000000 in
theorem specEqScr (d d' : Dat) (f0 : ByteArray) (L : List Dat) (A : Option Addr) (n c : Nat) (g0 : ByteArray) (M : List Dat) (B : Option Addr) (m k : Nat) (w : World) (hd : d = .r [.s f0, .l L]) (hd' : d' = .r [.s g0, .l M]) (hl : Lies w (.l L) [.slice A n c]) (hr : Lies w (.l M) [.slice B m k])
    (ht : ∀ x ∈ L, Has tyMethod x) (ht' : ∀ x ∈ M, Has tyMethod x) (hn : n ≤ 9223372036854775807) (hm : m ≤ 9223372036854775807) : Calls Try.prog 40 #[.agg #[.string f0, .slice A n c], .agg #[.string g0, .slice B m k]] w (GivesBool (eqScrD d d') w) := by
  have X0 := Lib.hid (Two2.mk_ w (.string f0) (.slice A n c) (.string g0) (.slice B m k) 34 34)
  have H := Lib.hid hl
  have H' := Lib.hid hr
  have HC := Lib.hid hl.count
  have HC' := Lib.hid hr.count
  have HT := Lib.hid ht
  have HT' := Lib.hid ht'
  have HE := Lib.hid (scr_eq hd hd')
  clear hl hr ht ht' hd hd'
  by_cases he : f0 = g0
  · subst he
    have HES : Hid (eqScrD d d' = sameL eqMethD L M) := Lib.hid (by rw [HE.out]; simp)
    clear HE
    by_cases hnm : n = m
    · subst hnm
      go_enter Try.func40, Try.ntmps40
      go_wp2
      go_loopw [5] (fun iv wr => ∃ i : Nat, i ≤ n ∧ iv = .int .i64 i ∧ Alike eqMethD L M i ∧ Two2 w (.string f0) (.slice A n c) (.string f0) (.slice B n k) wr) (fun iv _ => n - (intOf iv).toNat)
      case atStart => exact ⟨0, Nat.zero_le _, rfl, Alike.zero _ _ _, X0.out⟩
      case round =>
        obtain ⟨i, hin, rfl, hal, hX⟩ := hrel
        have HA := Lib.hid hal
        obtain ⟨p0, p1, q0, q1⟩ := hX.four
        have X := Lib.hid hX
        clear hal hX X0
        by_cases hlt : i < n
        · obtain ⟨b, off, d1, xs, rfl, hbw, hzi, hlie, hlen, hcellr⟩ := (H.out.below X.out.2.2).elem (fun x hx => (HT.out x hx).width) hlt
          obtain ⟨b', off', d2, xs', rfl, hbw', hzi', hlie', hlen', hcells⟩ := (H'.out.below X.out.2.2).elem (fun x hx => (HT'.out x hx).width) hlt
          obtain ⟨s0, M1, B1, m1, k1, hdd', rfl, _hg0, hr1, hu1, hv1⟩ := invMethod (HT'.out d2 (List.mem_of_getElem? hzi')) hlie'
          obtain ⟨r0, L1, A1, n1, c1, hdd, rfl, hf0, hl1, ht1, hm1⟩ := invMethod (HT.out d1 (List.mem_of_getElem? hzi)) hlie
          have e0 : wr.cell? ⟨b, off + i * 2, none⟩ = some (.string r0) := hcellr 0 _ rfl
          have e1 : wr.cell? ⟨b, off + i * 2 + 1, none⟩ = some (.slice A1 n1 c1) := hcellr 1 _ rfl
          have a0 : wr.cell? ⟨b', off' + i * 2, none⟩ = some (.string s0) := hcells 0 _ rfl
          have a1 : wr.cell? ⟨b', off' + i * 2 + 1, none⟩ = some (.slice B1 m1 k1) := hcells 1 _ rfl
          have K0 : Hid (Below wr.heap.size wr (wr.alloc (.cells #[.string r0, .slice A1 n1 c1] 29))) := Lib.hid (by go_grown)
          obtain ⟨t0, t1⟩ : (wr.alloc (.cells #[.string r0, .slice A1 n1 c1] 29)).cell? ⟨b', off' + i * 2, none⟩ = some (.string s0) ∧ (wr.alloc (.cells #[.string r0, .slice A1 n1 c1] 29)).cell? ⟨b', off' + i * 2 + 1, none⟩ = some (.slice B1 m1 k1) := ⟨(K0.out.cell (p := ⟨b', off' + i * 2, none⟩) hbw').trans a0, (K0.out.cell (p := ⟨b', off' + i * 2 + 1, none⟩) hbw').trans a1⟩
          obtain ⟨-, -, u0, u1⟩ := (X.out.below K0.out).four
          have Y0 := Lib.hid (Two2.mk_ wr (.string r0) (.slice A1 n1 c1) (.string s0) (.slice B1 m1 k1) 29 29)
          have HZ := Lib.hid hzi
          have HZ' := Lib.hid hzi'
          have HD := Lib.hid hdd
          have HD' := Lib.hid hdd'
          have HL1 := Lib.hid hl1
          have HR1 := Lib.hid hr1
          have HT1 := Lib.hid ht1
          have HU1 := Lib.hid hu1
          have HC1 := Lib.hid hl1.count
          have HC1' := Lib.hid hr1.count
          clear hzi hzi' hcellr hcells hlie hlie' hdd hdd' hl1 hr1 ht1 hu1 a0 a1
          by_cases hrs : r0 = s0
          · subst hrs
            by_cases hnm1 : n1 = m1
            · subst hnm1
              go_wp2
              go_loopw [8] (fun kv wq => ∃ j : Nat, j ≤ n1 ∧ kv = .int .i64 j ∧ Alike eqInsD L1 M1 j ∧ Two2 wr (.string r0) (.slice A1 n1 c1) (.string r0) (.slice B1 n1 k1) wq) (fun kv _ => n1 - (intOf kv).toNat)
              case atStart => exact ⟨0, Nat.zero_le _, rfl, Alike.zero _ _ _, Y0.out⟩
              case round =>
                obtain ⟨j, hjn, rfl, hal1, hY⟩ := hrel
                have HA1 := Lib.hid hal1
                obtain ⟨v0, v1, x0, x1⟩ := hY.four
                have Y := Lib.hid hY
                clear hal1 hY Y0 t0 t1 u0 u1 e0 e1 p0 p1 q0 q1
                by_cases hjl : j < n1
                · obtain ⟨b2, off2, c1', xs2, rfl, hb2, hz2, hlie2, hlen2, hcell2⟩ := (HL1.out.below Y.out.2.2).elem (fun x hx => (HT1.out x hx).width) hjl
                  obtain ⟨b3, off3, c2', xs3, rfl, hb3, hz3, hlie3, hlen3, hcell3⟩ := (HR1.out.below Y.out.2.2).elem (fun x hx => (HU1.out x hx).width) hjl
                  obtain ⟨g0, g1, g2, g3, g4, g5, hi3, rfl, _hf5⟩ := invInstr (HU1.out c2' (List.mem_of_getElem? hz3)) hlie3
                  obtain ⟨f0, f1, f2, f3, f4, f5, hi2, rfl, hf5⟩ := invInstr (HT1.out c1' (List.mem_of_getElem? hz2)) hlie2
                  have rr0 : wr.cell? ⟨b2, off2 + j * 6, none⟩ = some (.int .i64 f0) := hcell2 0 _ rfl
                  have rr1 : wr.cell? ⟨b2, off2 + j * 6 + 1, none⟩ = some (.int .i64 f1) := hcell2 1 _ rfl
                  have rr2 : wr.cell? ⟨b2, off2 + j * 6 + 2, none⟩ = some (.int .i64 f2) := hcell2 2 _ rfl
                  have rr3 : wr.cell? ⟨b2, off2 + j * 6 + 3, none⟩ = some (.int .i64 f3) := hcell2 3 _ rfl
                  have rr4 : wr.cell? ⟨b2, off2 + j * 6 + 4, none⟩ = some (.int .i64 f4) := hcell2 4 _ rfl
                  have rr5 : wr.cell? ⟨b2, off2 + j * 6 + 5, none⟩ = some (.string f5) := hcell2 5 _ rfl
                  have ss0 : wr.cell? ⟨b3, off3 + j * 6, none⟩ = some (.int .i64 g0) := hcell3 0 _ rfl
                  have ss1 : wr.cell? ⟨b3, off3 + j * 6 + 1, none⟩ = some (.int .i64 g1) := hcell3 1 _ rfl
                  have ss2 : wr.cell? ⟨b3, off3 + j * 6 + 2, none⟩ = some (.int .i64 g2) := hcell3 2 _ rfl
                  have ss3 : wr.cell? ⟨b3, off3 + j * 6 + 3, none⟩ = some (.int .i64 g3) := hcell3 3 _ rfl
                  have ss4 : wr.cell? ⟨b3, off3 + j * 6 + 4, none⟩ = some (.int .i64 g4) := hcell3 4 _ rfl
                  have ss5 : wr.cell? ⟨b3, off3 + j * 6 + 5, none⟩ = some (.string g5) := hcell3 5 _ rfl
                  have HZ2 := Lib.hid hz2
                  have HZ3 := Lib.hid hz3
                  clear hz2 hz3 hcell2 hcell3 hlie2 hlie3
                  obtain ⟨v, hv⟩ : ∃ v, eqIns ⟨f0, f1, f2, f3, f4, f5⟩ ⟨g0, g1, g2, g3, g4, g5⟩ = v := ⟨_, rfl⟩
                  have HV := Lib.hid hv
                  have HI : Hid (eqInsD c1' c2' = v) := Lib.hid (by rw [hi2, hi3]; exact hv)
                  clear hi2 hi3 hv
                  go_wp2
                  refine wp_region_quiet_lit (by kernel_rfl) (by kernel_rfl) ?_
                  repeat (first
                    | (refine BigFrame.wpQuiet_want (by rfl) (fun K hK => ?_); refine quiet_neq_ins rfl _ _ _ rfl rfl rfl v HV.out ?_; refine hK _ ?_; clear hK K)
                    | quiet_step (fail))
                  refine wpQuiet_nil ?_
                  intro _ hw'
                  obtain ⟨nq, hw''⟩ := hw'
                  subst hw''
                  cases v with
                  | true =>
                    have HN := Lib.hid (HA1.out.next HZ2.out HZ3.out HI.out)
                    go_wp2
                    go_roundw
                    case rel => exact ⟨j + 1, by omega, by go_num, HN.out, Y.out.drewN _⟩
                    case measure => simp [intOf]; omega
                  | false =>
                    have HN : Hid (false = eqScrD d d') := Lib.hid (by rw [HES.out]; exact (sameL_no HZ.out HZ'.out (meth_no_code HD.out HD'.out (sameL_no HZ2.out HZ3.out HI.out))).symm)
                    go_wp2
                    go_ret
                    exact GivesBool.of HN.out (below_drewN (X.out.2.2.trans (Y.out.2.2.mono X.out.2.2.size)) _)
                · obtain rfl : j = n1 := by omega
                  have HN := Lib.hid (HA.out.next HZ.out HZ'.out (meth_yes HD.out HD'.out (HA1.out.all HC1.out HC1'.out)))
                  go_wp2
                  go_roundw
                  case rel => exact ⟨i + 1, by omega, by go_num, HN.out, X.out.below Y.out.2.2⟩
                  case measure => simp [intOf]; omega
            · have HN : Hid (false = eqScrD d d') := Lib.hid (by rw [HES.out]; exact (sameL_no HZ.out HZ'.out (meth_no_code HD.out HD'.out (sameL_len (by rw [HC1.out, HC1'.out]; exact hnm1)))).symm)
              go_wp2
              go_ret
              exact GivesBool.of HN.out (X.out.2.2.trans (Y0.out.2.2.mono X.out.2.2.size))
          · have HN : Hid (false = eqScrD d d') := Lib.hid (by rw [HES.out]; exact (sameL_no HZ.out HZ'.out (meth_no_name HD.out HD'.out hrs)).symm)
            have he1 := bytes_ne hrs
            have he2 := bytes_neb hrs
            clear hrs
            go_wp2
            go_ret
            exact GivesBool.of HN.out (X.out.2.2.trans (Y0.out.2.2.mono X.out.2.2.size))
        · obtain rfl : i = n := by omega
          have HN : Hid (true = eqScrD d d') := Lib.hid (by rw [HES.out]; exact (HA.out.all HC.out HC'.out).symm)
          go_wp2
          go_ret
          exact GivesBool.of HN.out X.out.2.2
    · have HN : Hid (false = eqScrD d d') := Lib.hid (by rw [HES.out]; exact (sameL_len (by rw [HC.out, HC'.out]; exact hnm)).symm)
      go_enter Try.func40, Try.ntmps40
      go_wp2
      go_ret
      exact GivesBool.of HN.out X0.out.2.2
  · have he1 := bytes_ne he
    have he2 := bytes_neb he
    have HN : Hid (false = eqScrD d d') := Lib.hid (by rw [HE.out, decide_eq_false he]; rfl)
    clear he
    go_enter Try.func40, Try.ntmps40
    go_wp2
    go_ret
    exact GivesBool.of HN.out X0.out.2.2
end Go.Proofs.Ytaepconmjmcbdaa
