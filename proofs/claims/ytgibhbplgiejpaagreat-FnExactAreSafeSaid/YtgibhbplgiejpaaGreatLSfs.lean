/- Exact laws of chapter 8: AreSafe. -/
import Derived.Test.YtgibhbplgiejpaaGreatTyA
import Derived.Test.YtgibhbplgiejpaaGreatSafes
import Derived.Deep.RegionHeld3
namespace Go.Proofs.YtgibhbplgiejpaaGreat
open Go.RowKit
set_option linter.unusedVariables false
set_option linter.unusedSimpArgs false
set_option maxRecDepth 100000 in
set_option maxHeartbeats 8000000 in
theorem law_AreSafe (L0 : List Dat) (A0 : Option Addr) (n0 c0 : Nat) (W : World) (hl0 : Lies W (.l L0) [.slice A0 n0 c0]) (ht0 : ∀ x ∈ L0, Has tyScript x) (hn0 : n0 ≤ 9223372036854775807) :
    Calls Tryz.prog 4 #[.slice A0 n0 c0] W (GivesBool true W) := by
  have X := Lib.hid ((St.start W).lie hl0)
  have hc0 := Lib.hid hl0.count
  clear hl0
  obtain ⟨v, hv⟩ : ∃ v, safesD L0 = v := ⟨_, rfl⟩
  have HV := Lib.hid hv
  clear hv
  rcases leftD_cases (Dat.l L0) 1048576 with hbig | ⟨r0, hr0, hr00, hr10, hb0⟩
  case inl =>
    have HBIG := Lib.hid hbig
    clear hbig
    go_enter Tryz.func4, Tryz.ntmps4
    go_wp2_with fail
    refine (szScriptS L0 A0 n0 c0 (1048576) _ (by omega) (by omega) (X.out.lies (d := .l L0) (cs := [.slice A0 n0 c0]) (by repeat (first | exact List.mem_cons_self | refine List.mem_cons_of_mem _ ?_))) ht0 hn0).mono ?_
    rintro e w1 ⟨rfl, hb⟩
    rw [HBIG.out]
    replace X := Lib.hid (X.out.below hb)
    clear hb
    go_wp2_with fail
    go_ret
    exact GivesBool.ret X.out.low
  case inr =>
    have HR0 := Lib.hid hr0
    clear hr0
    have hq0 : (Dat.l L0).bulk ≤ 1099511627776 := by omega
    go_enter Tryz.func4, Tryz.ntmps4
    go_wp2_with fail
    refine (szScriptS L0 A0 n0 c0 (1048576) _ (by omega) (by omega) (X.out.lies (d := .l L0) (cs := [.slice A0 n0 c0]) (by repeat (first | exact List.mem_cons_self | refine List.mem_cons_of_mem _ ?_))) ht0 hn0).mono ?_
    rintro e w1 ⟨rfl, hb⟩
    rw [HR0.out]
    replace X := Lib.hid (X.out.below hb)
    clear hb
    go_wp2_with fail
    refine (toScriptS L0 A0 n0 c0 _ (X.out.lies (d := .l L0) (cs := [.slice A0 n0 c0]) (by repeat (first | exact List.mem_cons_self | refine List.mem_cons_of_mem _ ?_))) ht0 hq0).mono ?_
    rintro e w2 ⟨Bt0, mt0, kt0, rfl, hO, hb⟩
    obtain rfl : n0 = mt0 := by rw [← hO.lies.count, ← hc0.out]
    replace X := Lib.hid ((X.out.below hb).lie hO.lies)
    clear hO hb
    go_wp2_with fail
    refine (specSafes L0 Bt0 n0 kt0 _ (X.out.lies (d := .l L0) (cs := [.slice Bt0 n0 kt0]) (by repeat (first | exact List.mem_cons_self | refine List.mem_cons_of_mem _ ?_))) ht0 hq0).mono ?_
    rintro e w3 ⟨rfl, hb⟩
    rw [HV.out]
    replace X := Lib.hid (X.out.below hb)
    clear hb
    go_wp2_with fail
    refine (toScriptS L0 A0 n0 c0 _ (X.out.lies (d := .l L0) (cs := [.slice A0 n0 c0]) (by repeat (first | exact List.mem_cons_self | refine List.mem_cons_of_mem _ ?_))) ht0 hq0).mono ?_
    rintro e w4 ⟨Bx0, mx0, kx0, rfl, hO, hb⟩
    obtain rfl : n0 = mx0 := by rw [← hO.lies.count, ← hc0.out]
    replace X := Lib.hid ((X.out.below hb).lie hO.lies)
    clear hO hb
    go_wp2_with fail
    refine (implSafes L0 Bx0 n0 kx0 _ (X.out.lies (d := .l L0) (cs := [.slice Bx0 n0 kx0]) (by repeat (first | exact List.mem_cons_self | refine List.mem_cons_of_mem _ ?_))) ht0 hq0).mono ?_
    rintro e w5 ⟨rfl, hb⟩
    rw [HV.out]
    replace X := Lib.hid (X.out.below hb)
    clear hb
    go_wp2_with fail
    refine (toScriptS L0 A0 n0 c0 _ (X.out.lies (d := .l L0) (cs := [.slice A0 n0 c0]) (by repeat (first | exact List.mem_cons_self | refine List.mem_cons_of_mem _ ?_))) ht0 hq0).mono ?_
    rintro e w6 ⟨Bu0, mu0, ku0, rfl, hO, hb⟩
    obtain rfl : n0 = mu0 := by rw [← hO.lies.count, ← hc0.out]
    replace X := Lib.hid ((X.out.below hb).lie hO.lies)
    clear hO hb
    go_wp2_with fail
    refine (eqScriptS L0 Bx0 Bu0 n0 n0 kx0 ku0 _ (X.out.lies (d := .l L0) (cs := [.slice Bx0 n0 kx0]) (by repeat (first | exact List.mem_cons_self | refine List.mem_cons_of_mem _ ?_))) (X.out.lies (d := .l L0) (cs := [.slice Bu0 n0 ku0]) (by repeat (first | exact List.mem_cons_self | refine List.mem_cons_of_mem _ ?_))) ht0 hn0).mono ?_
    rintro e w7 ⟨rfl, hb⟩
    replace X := Lib.hid (X.out.below hb)
    clear hb
    go_wp2_with fail
    go_ret
    exact GivesBool.ret X.out.low
end Go.Proofs.YtgibhbplgiejpaaGreat
