/- Exact laws of chapter 9: EqualSents. -/
import Derived.Test.YtfgijebgnkikpaaSentI
import Derived.Test.YtfgijebgnkikpaaSentR
import Derived.Test.YtfgijebgnkikpaaTyE3
import Derived.Test.YtfgijebgnkikpaaTyE5
import Derived.Deep.RegionHeld3
import Derived.LoopTactic
import Derived.Lib.Hide
import Derived.Deep.QuietTactic
import Derived.BigQuiet
import Derived.Deep.RegionWith
import Derived.Handy
namespace Go.Proofs.Ytfgijebgnkikpaa
open Go.RowKit
set_option linter.unusedVariables false
set_option linter.unusedSimpArgs false
theorem leftD_cases9 : True := trivial
theorem specEqSentsG (L M : List Dat) (A B : Option Addr) (n c m k : Nat) (w : World) (h : Lies w (.l L) [.slice A n c]) (h' : Lies w (.l M) [.slice B m k]) (ht : ∀ x ∈ L, Has tySent x) (ht' : ∀ x ∈ M, Has tySent x) (hq : (Dat.l L).bulk ≤ 1099511627776) (hm : m ≤ 9223372036854775807) : Calls Try.prog 42 #[.slice A n c, .slice B m k] w (GivesBool (eqD L M) w) :=
  (specEqSents L M A B n c m k w h h' ht ht' hq hm).mono fun _ _ h9 => QuietB.gives h9
set_option maxRecDepth 100000 in
set_option maxHeartbeats 8000000 in
theorem law_EqualSents (L0 : List Dat) (A0 : Option Addr) (n0 c0 : Nat) (L1 : List Dat) (A1 : Option Addr) (n1 c1 : Nat) (W : World) (hl0 : Lies W (.l L0) [.slice A0 n0 c0]) (ht0 : ∀ x ∈ L0, Has tySent x) (hn0 : n0 ≤ 9223372036854775807) (hl1 : Lies W (.l L1) [.slice A1 n1 c1]) (ht1 : ∀ x ∈ L1, Has tySent x) (hn1 : n1 ≤ 9223372036854775807) :
    Calls Try.prog 11 #[.slice A0 n0 c0, .slice A1 n1 c1] W (GivesBool true W) := by
  have X := Lib.hid (((St.start W).lie hl0).lie hl1)
  have hc0 := Lib.hid hl0.count
  clear hl0
  have hc1 := Lib.hid hl1.count
  clear hl1
  obtain ⟨v, hv⟩ : ∃ v, eqD L0 L1 = v := ⟨_, rfl⟩
  have HV := Lib.hid hv
  clear hv
  rcases leftD_cases (Dat.l L0) 1048576 with hbig | ⟨r0, hr0, hr00, hr10, hb0⟩
  case inl =>
    have HBIG := Lib.hid hbig
    clear hbig
    go_enter Try.func11, Try.ntmps11
    go_wp2_with fail
    refine (szSentS L0 A0 n0 c0 (1048576) _ (by omega) (by omega) (X.out.lies (d := .l L0) (cs := [.slice A0 n0 c0]) (by repeat (first | exact List.mem_cons_self | refine List.mem_cons_of_mem _ ?_))) ht0 hn0).mono ?_
    rintro e w1 ⟨rfl, hb⟩
    rw [HBIG.out]
    replace X := Lib.hid (X.out.below hb)
    clear hb
    go_wp2_with fail
    go_ret
    exact GivesBool.ret X.out.low
  case inr =>
    have HR0 := Lib.hid hr0
    clear hr0
    have hq0 : (Dat.l L0).bulk ≤ 1099511627776 := by omega
    rcases leftD_cases (Dat.l L1) r0 with hbig | ⟨r1, hr1, hr01, hr11, hb1⟩
    case inl =>
      have HBIG := Lib.hid hbig
      clear hbig
      go_enter Try.func11, Try.ntmps11
      go_wp2_with fail
      refine (szSentS L0 A0 n0 c0 (1048576) _ (by omega) (by omega) (X.out.lies (d := .l L0) (cs := [.slice A0 n0 c0]) (by repeat (first | exact List.mem_cons_self | refine List.mem_cons_of_mem _ ?_))) ht0 hn0).mono ?_
      rintro e w1 ⟨rfl, hb⟩
      rw [HR0.out]
      replace X := Lib.hid (X.out.below hb)
      clear hb
      go_wp2_with fail
      refine (szSentS L1 A1 n1 c1 (r0) _ (by omega) (by omega) (X.out.lies (d := .l L1) (cs := [.slice A1 n1 c1]) (by repeat (first | exact List.mem_cons_self | refine List.mem_cons_of_mem _ ?_))) ht1 hn1).mono ?_
      rintro e w2 ⟨rfl, hb⟩
      rw [HBIG.out]
      replace X := Lib.hid (X.out.below hb)
      clear hb
      go_wp2_with fail
      go_ret
      exact GivesBool.ret X.out.low
    case inr =>
      have HR1 := Lib.hid hr1
      clear hr1
      have hq1 : (Dat.l L1).bulk ≤ 1099511627776 := by omega
      go_enter Try.func11, Try.ntmps11
      go_wp2_with fail
      refine (szSentS L0 A0 n0 c0 (1048576) _ (by omega) (by omega) (X.out.lies (d := .l L0) (cs := [.slice A0 n0 c0]) (by repeat (first | exact List.mem_cons_self | refine List.mem_cons_of_mem _ ?_))) ht0 hn0).mono ?_
      rintro e w1 ⟨rfl, hb⟩
      rw [HR0.out]
      replace X := Lib.hid (X.out.below hb)
      clear hb
      go_wp2_with fail
      refine (szSentS L1 A1 n1 c1 (r0) _ (by omega) (by omega) (X.out.lies (d := .l L1) (cs := [.slice A1 n1 c1]) (by repeat (first | exact List.mem_cons_self | refine List.mem_cons_of_mem _ ?_))) ht1 hn1).mono ?_
      rintro e w2 ⟨rfl, hb⟩
      rw [HR1.out]
      replace X := Lib.hid (X.out.below hb)
      clear hb
      go_wp2_with fail
      refine (toSentS L0 A0 n0 c0 _ (X.out.lies (d := .l L0) (cs := [.slice A0 n0 c0]) (by repeat (first | exact List.mem_cons_self | refine List.mem_cons_of_mem _ ?_))) ht0 hq0).mono ?_
      rintro e w3 ⟨Bt0, mt0, kt0, rfl, hO, hb⟩
      obtain rfl : n0 = mt0 := by rw [← hO.lies.count, ← hc0.out]
      replace X := Lib.hid ((X.out.below hb).lie hO.lies)
      clear hO hb
      go_wp2_with fail
      refine (toSentS L1 A1 n1 c1 _ (X.out.lies (d := .l L1) (cs := [.slice A1 n1 c1]) (by repeat (first | exact List.mem_cons_self | refine List.mem_cons_of_mem _ ?_))) ht1 hq1).mono ?_
      rintro e w4 ⟨Bt1, mt1, kt1, rfl, hO, hb⟩
      obtain rfl : n1 = mt1 := by rw [← hO.lies.count, ← hc1.out]
      replace X := Lib.hid ((X.out.below hb).lie hO.lies)
      clear hO hb
      go_wp2_with fail
      refine (specEqSentsG L0 L1 Bt0 Bt1 n0 kt0 n1 kt1 _ (X.out.lies (d := .l L0) (cs := [.slice Bt0 n0 kt0]) (by repeat (first | exact List.mem_cons_self | refine List.mem_cons_of_mem _ ?_))) (X.out.lies (d := .l L1) (cs := [.slice Bt1 n1 kt1]) (by repeat (first | exact List.mem_cons_self | refine List.mem_cons_of_mem _ ?_))) ht0 ht1 hq0 hn1).mono ?_
      rintro e w5 ⟨rfl, hb⟩
      rw [HV.out]
      replace X := Lib.hid (X.out.below hb)
      clear hb
      go_wp2_with fail
      refine (toSentS L0 A0 n0 c0 _ (X.out.lies (d := .l L0) (cs := [.slice A0 n0 c0]) (by repeat (first | exact List.mem_cons_self | refine List.mem_cons_of_mem _ ?_))) ht0 hq0).mono ?_
      rintro e w6 ⟨Bx0, mx0, kx0, rfl, hO, hb⟩
      obtain rfl : n0 = mx0 := by rw [← hO.lies.count, ← hc0.out]
      replace X := Lib.hid ((X.out.below hb).lie hO.lies)
      clear hO hb
      go_wp2_with fail
      refine (toSentS L1 A1 n1 c1 _ (X.out.lies (d := .l L1) (cs := [.slice A1 n1 c1]) (by repeat (first | exact List.mem_cons_self | refine List.mem_cons_of_mem _ ?_))) ht1 hq1).mono ?_
      rintro e w7 ⟨Bx1, mx1, kx1, rfl, hO, hb⟩
      obtain rfl : n1 = mx1 := by rw [← hO.lies.count, ← hc1.out]
      replace X := Lib.hid ((X.out.below hb).lie hO.lies)
      clear hO hb
      go_wp2_with fail
      refine (implEqSents L0 L1 Bx0 Bx1 n0 kx0 n1 kx1 _ (X.out.lies (d := .l L0) (cs := [.slice Bx0 n0 kx0]) (by repeat (first | exact List.mem_cons_self | refine List.mem_cons_of_mem _ ?_))) (X.out.lies (d := .l L1) (cs := [.slice Bx1 n1 kx1]) (by repeat (first | exact List.mem_cons_self | refine List.mem_cons_of_mem _ ?_))) ht0 ht1 hq0 hn1).mono ?_
      rintro e w8 ⟨rfl, hb⟩
      rw [HV.out]
      replace X := Lib.hid (X.out.below hb)
      clear hb
      go_wp2_with fail
      refine (toSentS L0 A0 n0 c0 _ (X.out.lies (d := .l L0) (cs := [.slice A0 n0 c0]) (by repeat (first | exact List.mem_cons_self | refine List.mem_cons_of_mem _ ?_))) ht0 hq0).mono ?_
      rintro e w9 ⟨Bu0, mu0, ku0, rfl, hO, hb⟩
      obtain rfl : n0 = mu0 := by rw [← hO.lies.count, ← hc0.out]
      replace X := Lib.hid ((X.out.below hb).lie hO.lies)
      clear hO hb
      go_wp2_with fail
      refine (eqSentS L0 Bx0 Bu0 n0 n0 kx0 ku0 _ (X.out.lies (d := .l L0) (cs := [.slice Bx0 n0 kx0]) (by repeat (first | exact List.mem_cons_self | refine List.mem_cons_of_mem _ ?_))) (X.out.lies (d := .l L0) (cs := [.slice Bu0 n0 ku0]) (by repeat (first | exact List.mem_cons_self | refine List.mem_cons_of_mem _ ?_))) ht0 hn0).mono ?_
      rintro e w10 ⟨rfl, hb⟩
      replace X := Lib.hid (X.out.below hb)
      clear hb
      go_wp2_with fail
      refine (toSentS L1 A1 n1 c1 _ (X.out.lies (d := .l L1) (cs := [.slice A1 n1 c1]) (by repeat (first | exact List.mem_cons_self | refine List.mem_cons_of_mem _ ?_))) ht1 hq1).mono ?_
      rintro e w11 ⟨Bu1, mu1, ku1, rfl, hO, hb⟩
      obtain rfl : n1 = mu1 := by rw [← hO.lies.count, ← hc1.out]
      replace X := Lib.hid ((X.out.below hb).lie hO.lies)
      clear hO hb
      go_wp2_with fail
      refine (eqSentS L1 Bx1 Bu1 n1 n1 kx1 ku1 _ (X.out.lies (d := .l L1) (cs := [.slice Bx1 n1 kx1]) (by repeat (first | exact List.mem_cons_self | refine List.mem_cons_of_mem _ ?_))) (X.out.lies (d := .l L1) (cs := [.slice Bu1 n1 ku1]) (by repeat (first | exact List.mem_cons_self | refine List.mem_cons_of_mem _ ?_))) ht1 hn1).mono ?_
      rintro e w12 ⟨rfl, hb⟩
      replace X := Lib.hid (X.out.below hb)
      clear hb
      go_wp2_with fail
      go_ret
      exact GivesBool.ret X.out.low
end Go.Proofs.Ytfgijebgnkikpaa
