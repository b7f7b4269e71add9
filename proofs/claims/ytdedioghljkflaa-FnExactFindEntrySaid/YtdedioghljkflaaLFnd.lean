/- Exact laws of chapter 10: FindEntry. -/
import Derived.Test.YtdedioghljkflaaLnkF
import Derived.Test.YtdedioghljkflaaTyG3
import Derived.Test.YtdedioghljkflaaTyG5
import Derived.Deep.RegionHeld3
import Derived.LoopTactic
import Derived.Lib.Hide
import Derived.Deep.QuietTactic
import Derived.BigQuiet
import Derived.Deep.RegionWith
import Derived.Handy
namespace Go.Proofs.Ytdedioghljkflaa
open Go.RowKit
set_option linter.unusedVariables false
set_option linter.unusedSimpArgs false
set_option maxRecDepth 100000 in
set_option maxHeartbeats 8000000 in
theorem law_FindEntry (L0 : List Dat) (A0 : Option Addr) (n0 c0 : Nat) (a1 : Int) (W : World) (hl0 : Lies W (.l L0) [.slice A0 n0 c0]) (ht0 : ∀ x ∈ L0, Has tyQuestion x) (hn0 : n0 ≤ 9223372036854775807) :
    Calls Try.prog 10 #[.slice A0 n0 c0, .int .i64 a1] W (GivesBool true W) := by
  have X := Lib.hid ((St.start W).lie hl0)
  have hc0 := Lib.hid hl0.count
  clear hl0
  obtain ⟨v, hv⟩ : ∃ v, look (isF 0 a1) 1 (-1) L0 = v := ⟨_, rfl⟩
  have HV := Lib.hid hv
  clear hv
  rcases leftD_cases (Dat.l L0) 1048576 with hbig | ⟨r0, hr0, hr00, hr10, hb0⟩
  case inl =>
    have HBIG := Lib.hid hbig
    clear hbig
    go_enter Try.func10, Try.ntmps10
    go_wp2_with fail
    refine (szQuestionS L0 A0 n0 c0 (1048576) _ (by omega) (by omega) (X.out.lies (d := .l L0) (cs := [.slice A0 n0 c0]) (by repeat (first | exact List.mem_cons_self | refine List.mem_cons_of_mem _ ?_))) ht0 hn0).mono ?_
    rintro e w1 ⟨rfl, hb⟩
    rw [HBIG.out]
    replace X := Lib.hid (X.out.below hb)
    clear hb
    go_wp2_with fail
    go_ret
    exact GivesBool.ret X.out.low
  case inr =>
    have HR0 := Lib.hid hr0
    clear hr0
    have hq0 : (Dat.l L0).bulk ≤ 1099511627776 := by omega
    go_enter Try.func10, Try.ntmps10
    go_wp2_with fail
    refine (szQuestionS L0 A0 n0 c0 (1048576) _ (by omega) (by omega) (X.out.lies (d := .l L0) (cs := [.slice A0 n0 c0]) (by repeat (first | exact List.mem_cons_self | refine List.mem_cons_of_mem _ ?_))) ht0 hn0).mono ?_
    rintro e w1 ⟨rfl, hb⟩
    rw [HR0.out]
    replace X := Lib.hid (X.out.below hb)
    clear hb
    go_wp2_with fail
    refine (toQuestionS L0 A0 n0 c0 _ (X.out.lies (d := .l L0) (cs := [.slice A0 n0 c0]) (by repeat (first | exact List.mem_cons_self | refine List.mem_cons_of_mem _ ?_))) ht0 hq0).mono ?_
    rintro e w2 ⟨Bt0, mt0, kt0, rfl, hO, hb⟩
    obtain rfl : n0 = mt0 := by rw [← hO.lies.count, ← hc0.out]
    replace X := Lib.hid ((X.out.below hb).lie hO.lies)
    clear hO hb
    go_wp2_with fail
    refine (specFindQ L0 Bt0 n0 kt0 a1 _ (X.out.lies (d := .l L0) (cs := [.slice Bt0 n0 kt0]) (by repeat (first | exact List.mem_cons_self | refine List.mem_cons_of_mem _ ?_))) ht0 (by have h1 := hc0.out; simp only [Dat.bulk] at hb0; omega)).mono ?_
    rintro e w3 ⟨rfl, hb⟩
    rw [HV.out]
    replace X := Lib.hid (X.out.below hb)
    clear hb
    go_wp2_with fail
    refine (toQuestionS L0 A0 n0 c0 _ (X.out.lies (d := .l L0) (cs := [.slice A0 n0 c0]) (by repeat (first | exact List.mem_cons_self | refine List.mem_cons_of_mem _ ?_))) ht0 hq0).mono ?_
    rintro e w4 ⟨Bx0, mx0, kx0, rfl, hO, hb⟩
    obtain rfl : n0 = mx0 := by rw [← hO.lies.count, ← hc0.out]
    replace X := Lib.hid ((X.out.below hb).lie hO.lies)
    clear hO hb
    go_wp2_with fail
    refine (implFindQ L0 Bx0 n0 kx0 a1 _ (X.out.lies (d := .l L0) (cs := [.slice Bx0 n0 kx0]) (by repeat (first | exact List.mem_cons_self | refine List.mem_cons_of_mem _ ?_))) ht0 (by have h1 := hc0.out; simp only [Dat.bulk] at hb0; omega)).mono ?_
    rintro e w5 ⟨rfl, hb⟩
    rw [HV.out]
    replace X := Lib.hid (X.out.below hb)
    clear hb
    go_wp2_with fail
    refine (toQuestionS L0 A0 n0 c0 _ (X.out.lies (d := .l L0) (cs := [.slice A0 n0 c0]) (by repeat (first | exact List.mem_cons_self | refine List.mem_cons_of_mem _ ?_))) ht0 hq0).mono ?_
    rintro e w6 ⟨Bu0, mu0, ku0, rfl, hO, hb⟩
    obtain rfl : n0 = mu0 := by rw [← hO.lies.count, ← hc0.out]
    replace X := Lib.hid ((X.out.below hb).lie hO.lies)
    clear hO hb
    go_wp2_with fail
    refine (eqQuestionS L0 Bx0 Bu0 n0 n0 kx0 ku0 _ (X.out.lies (d := .l L0) (cs := [.slice Bx0 n0 kx0]) (by repeat (first | exact List.mem_cons_self | refine List.mem_cons_of_mem _ ?_))) (X.out.lies (d := .l L0) (cs := [.slice Bu0 n0 ku0]) (by repeat (first | exact List.mem_cons_self | refine List.mem_cons_of_mem _ ?_))) ht0 hn0).mono ?_
    rintro e w7 ⟨rfl, hb⟩
    replace X := Lib.hid (X.out.below hb)
    clear hb
    go_wp2_with fail
    go_ret
    exact GivesBool.ret X.out.low
end Go.Proofs.Ytdedioghljkflaa
