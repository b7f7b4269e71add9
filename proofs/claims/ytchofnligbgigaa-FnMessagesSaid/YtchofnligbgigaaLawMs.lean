/- FnMessages: messages are decoded from their encoding, and only from this. Conditions: none beyond the form's. -/
import Derived.Test.YtchofnligbgigaaMsF
import Derived.Test.YtchofnligbgigaaDraO
import Derived.Test.YtchofnligbgigaaDecI
import Derived.Test.YtchofnligbgigaaEncI
import Derived.Test.YtchofnligbgigaaIsMS
import Derived.Test.YtchofnligbgigaaLawM0
import Derived.LoopTactic
import Derived.Lib.Hide
import Derived.Deep.QuietTactic
import Derived.BigQuiet
import Derived.Deep.RegionWith
import Derived.Handy
namespace Go.Proofs.Ytchofnligbgigaa
open Go.RowKit
set_option linter.unusedVariables false
set_option linter.unusedSimpArgs false
theorem dec_msg {f0 f1 f2 f3 : Int} {f4 : ByteArray} {L5 : List Dat} {f6_0 f6_1 f7 f8_0 f8_1 f8_2 : Int} (hv : msgB f0 f1 f2 f3 f4 L5 f6_0 f6_1 f7 f8_0 f8_1 f8_2 = true) (hty : ∀ d ∈ L5, Has tyWire d) {w w' : World} {e : Ending} (h : GivesDM (decM (encM f0 f1 f2 f3 f4 L5 f6_0 f6_1 f7 f8_0 f8_1 f8_2)) w e w') : GivesD9 f0 f1 f2 f3 f4 L5 L5.length f6_0 f6_1 f7 f8_0 f8_1 f8_2 true w e w' := by
  rw [dec_enc hv hty] at h
  have h1 : GivesD9 f0 f1 f2 f3 (bytesOf (strI f4)) (wiresL (flatW L5)) (wiresL (flatW L5)).length f6_0 f6_1 f7 f8_0 f8_1 f8_2 true w e w' := h
  rw [bytesOf_strI, wiresL_flatW L5 hty] at h1
  exact h1
theorem dec_msg0 {f0 f1 f2 f3 : Int} {f4 : ByteArray} {L5 : List Dat} {f6_0 f6_1 f7 f8_0 f8_1 f8_2 : Int} (hv : msgB f0 f1 f2 f3 f4 L5 f6_0 f6_1 f7 f8_0 f8_1 f8_2 = false) {w w' : World} {e : Ending} (h : GivesDM (decM (encM f0 f1 f2 f3 f4 L5 f6_0 f6_1 f7 f8_0 f8_1 f8_2)) w e w') : GivesD9 0 0 0 0 ⟨#[]⟩ [] 0 0 0 0 0 0 0 false w e w' := by
  rw [dec_no hv] at h
  exact h
theorem encM_len3 (f0 f1 f2 f3 : Int) (f4 : ByteArray) (L5 : List Dat) (f6_0 f6_1 f7 f8_0 f8_1 f8_2 : Int) : (encM f0 f1 f2 f3 f4 L5 f6_0 f6_1 f7 f8_0 f8_1 f8_2).length ≤ 1048577 := encM_len2 f0 f1 f2 f3 f4 L5 f6_0 f6_1 f7 f8_0 f8_1 f8_2
set_option maxRecDepth 100000 in
set_option maxHeartbeats 32000000 in
theorem law_messages (A : Option Addr) (n c : Nat) (W : World) (hC : Code W A n) : Calls Try.prog 3 #[.slice A n c] W (GivesBool true W) := by
  have HC := Lib.hid hC
  clear hC
  by_cases hn : n ≤ 1048576
  · go_enter Try.func3, Try.ntmps3
    have HB : Hid (Below W.heap.size W W) := Lib.hid (Below.refl _ _)
    go_wp2_with fail
    refine (big_no A n c _ hn).mono ?_
    rintro e w' ⟨rfl, rfl⟩
    go_wp2_with fail
    refine (drawIsM A n c _ HC.out hn).mono ?_
    rintro e w1 ⟨f0, f1, f2, f3, f4, L5, A5, n5, c5, f6_0, f6_1, f7, f8_0, f8_1, f8_2, rfl, hlm, ⟨hs8, hty, hl3⟩, hb⟩
    replace HB : Hid (Below W.heap.size W w1) := Lib.hid (HB.out.trans (hb.mono HB.out.size))
    clear hb
    have Lm := Lib.hid hlm
    have hc5 := hlm.count
    have hn5 : n5 ≤ 3 := by omega
    have HC5 := Lib.hid hc5
    have HTY := Lib.hid hty
    have hs4 : f4.size ≤ 140737488351232 := by omega
    clear hlm hc5 hty hl3
    have hb : Below w1.heap.size w1 (w1.alloc (.cells #[.int .i64 f0, .int .i64 f1, .int .i64 f2, .int .i64 f3, .string f4, .slice A5 n5 c5, .int .i64 f6_0, .int .i64 f6_1, .int .i64 f7, .int .i64 f8_0, .int .i64 f8_1, .int .i64 f8_2] 30)) := (Below.refl _ _).alloc (Nat.le_refl _) _
    replace Lm : Hid (Lies (w1.alloc (.cells #[.int .i64 f0, .int .i64 f1, .int .i64 f2, .int .i64 f3, .string f4, .slice A5 n5 c5, .int .i64 f6_0, .int .i64 f6_1, .int .i64 f7, .int .i64 f8_0, .int .i64 f8_1, .int .i64 f8_2] 30)) (.l L5) [.slice A5 n5 c5]) := Lib.hid (Lm.out.below hb)
    replace HB : Hid (Below W.heap.size W (w1.alloc (.cells #[.int .i64 f0, .int .i64 f1, .int .i64 f2, .int .i64 f3, .string f4, .slice A5 n5 c5, .int .i64 f6_0, .int .i64 f6_1, .int .i64 f7, .int .i64 f8_0, .int .i64 f8_1, .int .i64 f8_2] 30))) := Lib.hid (HB.out.trans (hb.mono HB.out.size))
    clear hb
    have Bm : Hid (Box (w1.heap.size) [.int .i64 f0, .int .i64 f1, .int .i64 f2, .int .i64 f3, .string f4, .slice A5 n5 c5, .int .i64 f6_0, .int .i64 f6_1, .int .i64 f7, .int .i64 f8_0, .int .i64 f8_1, .int .i64 f8_2] (w1.alloc (.cells #[.int .i64 f0, .int .i64 f1, .int .i64 f2, .int .i64 f3, .string f4, .slice A5 n5 c5, .int .i64 f6_0, .int .i64 f6_1, .int .i64 f7, .int .i64 f8_0, .int .i64 f8_1, .int .i64 f8_2] 30))) := Lib.hid (Box.new w1 #[.int .i64 f0, .int .i64 f1, .int .i64 f2, .int .i64 f3, .string f4, .slice A5 n5 c5, .int .i64 f6_0, .int .i64 f6_1, .int .i64 f7, .int .i64 f8_0, .int .i64 f8_1, .int .i64 f8_2] 30)
    obtain ⟨zm0, zm1, zm2, zm3, zm4, zm5, zm6, zm7, zm8, zm9, zm10, zm11⟩ := Bm.out.c12
    go_wp2_with fail
    refine (implEnc f0 f1 f2 f3 f4 L5 A5 n5 c5 f6_0 f6_1 f7 f8_0 f8_1 f8_2 _ Lm.out HTY.out (by omega)).mono ?_
    rintro e w2 ⟨A1, n1, c1, rfl, hO, hb⟩
    clear zm0 zm1 zm2 zm3 zm4 zm5 zm6 zm7 zm8 zm9 zm10 zm11
    replace Bm : Hid (Box (w1.heap.size) [.int .i64 f0, .int .i64 f1, .int .i64 f2, .int .i64 f3, .string f4, .slice A5 n5 c5, .int .i64 f6_0, .int .i64 f6_1, .int .i64 f7, .int .i64 f8_0, .int .i64 f8_1, .int .i64 f8_2] w2) := Lib.hid (Bm.out.below hb)
    replace Lm : Hid (Lies w2 (.l L5) [.slice A5 n5 c5]) := Lib.hid (Lm.out.below hb)
    replace HB : Hid (Below W.heap.size W w2) := Lib.hid (HB.out.trans (hb.mono HB.out.size))
    clear hb
    have Yb := Lib.hid hO.rz
    have hcap1 := hO.cap.1
    have hn1 : n1 ≤ 1048577 := by rw [← hO.1]; exact encM_len3 f0 f1 f2 f3 f4 L5 f6_0 f6_1 f7 f8_0 f8_1 f8_2
    have HBY1 := Lib.hid (encM_byt f0 f1 f2 f3 f4 L5 f6_0 f6_1 f7 f8_0 f8_1 f8_2)
    clear hO
    rcases hv : msgB f0 f1 f2 f3 f4 L5 f6_0 f6_1 f7 f8_0 f8_1 f8_2 with _ | _
    · skip
      have HV : Hid (msgB f0 f1 f2 f3 f4 L5 f6_0 f6_1 f7 f8_0 f8_1 f8_2 = false) := Lib.hid hv
      clear hv
      go_wp2_with fail
      refine ((implDecM A1 n1 c1 _ _ Yb.out hcap1 HBY1.out (by omega)).mono (fun e w' h => dec_msg0 HV.out h)).mono ?_
      rintro e w3 ⟨X5, x5, rfl, hO, hb⟩
      replace Bm : Hid (Box (w1.heap.size) [.int .i64 f0, .int .i64 f1, .int .i64 f2, .int .i64 f3, .string f4, .slice A5 n5 c5, .int .i64 f6_0, .int .i64 f6_1, .int .i64 f7, .int .i64 f8_0, .int .i64 f8_1, .int .i64 f8_2] w3) := Lib.hid (Bm.out.below hb)
      replace Lm : Hid (Lies w3 (.l L5) [.slice A5 n5 c5]) := Lib.hid (Lm.out.below hb)
      replace Yb : Hid (Rz .u8 w3 A1 n1 (encM f0 f1 f2 f3 f4 L5 f6_0 f6_1 f7 f8_0 f8_1 f8_2)) := Lib.hid (Yb.out.below hb)
      replace HB : Hid (Below W.heap.size W w3) := Lib.hid (HB.out.trans (hb.mono HB.out.size))
      clear hb
      clear hO
      have hb : Below w3.heap.size w3 (w3.alloc (.cells #[.int .i64 0, .int .i64 0, .int .i64 0, .int .i64 0, .string ⟨#[]⟩, .slice X5 0 x5, .int .i64 0, .int .i64 0, .int .i64 0, .int .i64 0, .int .i64 0, .int .i64 0] 30)) := (Below.refl _ _).alloc (Nat.le_refl _) _
      replace Bm : Hid (Box (w1.heap.size) [.int .i64 f0, .int .i64 f1, .int .i64 f2, .int .i64 f3, .string f4, .slice A5 n5 c5, .int .i64 f6_0, .int .i64 f6_1, .int .i64 f7, .int .i64 f8_0, .int .i64 f8_1, .int .i64 f8_2] (w3.alloc (.cells #[.int .i64 0, .int .i64 0, .int .i64 0, .int .i64 0, .string ⟨#[]⟩, .slice X5 0 x5, .int .i64 0, .int .i64 0, .int .i64 0, .int .i64 0, .int .i64 0, .int .i64 0] 30))) := Lib.hid (Bm.out.below hb)
      replace Lm : Hid (Lies (w3.alloc (.cells #[.int .i64 0, .int .i64 0, .int .i64 0, .int .i64 0, .string ⟨#[]⟩, .slice X5 0 x5, .int .i64 0, .int .i64 0, .int .i64 0, .int .i64 0, .int .i64 0, .int .i64 0] 30)) (.l L5) [.slice A5 n5 c5]) := Lib.hid (Lm.out.below hb)
      replace Yb : Hid (Rz .u8 (w3.alloc (.cells #[.int .i64 0, .int .i64 0, .int .i64 0, .int .i64 0, .string ⟨#[]⟩, .slice X5 0 x5, .int .i64 0, .int .i64 0, .int .i64 0, .int .i64 0, .int .i64 0, .int .i64 0] 30)) A1 n1 (encM f0 f1 f2 f3 f4 L5 f6_0 f6_1 f7 f8_0 f8_1 f8_2)) := Lib.hid (Yb.out.below hb)
      replace HB : Hid (Below W.heap.size W (w3.alloc (.cells #[.int .i64 0, .int .i64 0, .int .i64 0, .int .i64 0, .string ⟨#[]⟩, .slice X5 0 x5, .int .i64 0, .int .i64 0, .int .i64 0, .int .i64 0, .int .i64 0, .int .i64 0] 30))) := Lib.hid (HB.out.trans (hb.mono HB.out.size))
      clear hb
      have Bx : Hid (Box (w3.heap.size) [.int .i64 0, .int .i64 0, .int .i64 0, .int .i64 0, .string ⟨#[]⟩, .slice X5 0 x5, .int .i64 0, .int .i64 0, .int .i64 0, .int .i64 0, .int .i64 0, .int .i64 0] (w3.alloc (.cells #[.int .i64 0, .int .i64 0, .int .i64 0, .int .i64 0, .string ⟨#[]⟩, .slice X5 0 x5, .int .i64 0, .int .i64 0, .int .i64 0, .int .i64 0, .int .i64 0, .int .i64 0] 30))) := Lib.hid (Box.new w3 #[.int .i64 0, .int .i64 0, .int .i64 0, .int .i64 0, .string ⟨#[]⟩, .slice X5 0 x5, .int .i64 0, .int .i64 0, .int .i64 0, .int .i64 0, .int .i64 0, .int .i64 0] 30)
      obtain ⟨zm0, zm1, zm2, zm3, zm4, zm5, zm6, zm7, zm8, zm9, zm10, zm11⟩ := Bm.out.c12
      obtain ⟨zx0, zx1, zx2, zx3, zx4, zx5, zx6, zx7, zx8, zx9, zx10, zx11⟩ := Bx.out.c12
      go_wp2_with fail
      refine (specIsMsg f0 f1 f2 f3 f4 L5 A5 n5 c5 f6_0 f6_1 f7 f8_0 f8_1 f8_2 _ Lm.out HTY.out (by omega) hs4).mono ?_
      rintro e w4 ⟨rfl, hb⟩
      clear zm0 zm1 zm2 zm3 zm4 zm5 zm6 zm7 zm8 zm9 zm10 zm11
      clear zx0 zx1 zx2 zx3 zx4 zx5 zx6 zx7 zx8 zx9 zx10 zx11
      rw [HV.out]
      replace Bm : Hid (Box (w1.heap.size) [.int .i64 f0, .int .i64 f1, .int .i64 f2, .int .i64 f3, .string f4, .slice A5 n5 c5, .int .i64 f6_0, .int .i64 f6_1, .int .i64 f7, .int .i64 f8_0, .int .i64 f8_1, .int .i64 f8_2] w4) := Lib.hid (Bm.out.below hb)
      replace Bx : Hid (Box (w3.heap.size) [.int .i64 0, .int .i64 0, .int .i64 0, .int .i64 0, .string ⟨#[]⟩, .slice X5 0 x5, .int .i64 0, .int .i64 0, .int .i64 0, .int .i64 0, .int .i64 0, .int .i64 0] w4) := Lib.hid (Bx.out.below hb)
      replace Lm : Hid (Lies w4 (.l L5) [.slice A5 n5 c5]) := Lib.hid (Lm.out.below hb)
      replace Yb : Hid (Rz .u8 w4 A1 n1 (encM f0 f1 f2 f3 f4 L5 f6_0 f6_1 f7 f8_0 f8_1 f8_2)) := Lib.hid (Yb.out.below hb)
      replace HB : Hid (Below W.heap.size W w4) := Lib.hid (HB.out.trans (hb.mono HB.out.size))
      clear hb
      obtain ⟨zm0, zm1, zm2, zm3, zm4, zm5, zm6, zm7, zm8, zm9, zm10, zm11⟩ := Bm.out.c12
      obtain ⟨zx0, zx1, zx2, zx3, zx4, zx5, zx6, zx7, zx8, zx9, zx10, zx11⟩ := Bx.out.c12
      go_wp2_with fail
      refine (drawDec A n c _ (HC.out.low9 HB.out) hn).mono ?_
      rintro e w5 ⟨A4, n4, c4, zs4, rfl, hR4, hc4, hby4, hn4, hb⟩
      replace HB : Hid (Below W.heap.size W w5) := Lib.hid (HB.out.trans (hb.mono HB.out.size))
      clear hb
      have Yc := Lib.hid hR4
      have HBY4 := Lib.hid hby4
      clear hR4 hby4
      rcases hd : decM zs4 with _ | ⟨ns, nm⟩
      · have HD := Lib.hid hd
        clear hd
        go_wp2_with fail
        refine ((implDecM A4 n4 c4 zs4 _ Yc.out hc4 HBY4.out (by omega)).mono (fun e w' h => (by rw [HD.out] at h; exact h : GivesD9 0 0 0 0 ⟨#[]⟩ [] 0 0 0 0 0 0 0 false _ e w'))).mono ?_
        rintro e w6 ⟨V5, v5, rfl, hO, hb⟩
        replace Yc : Hid (Rz .u8 w6 A4 n4 zs4) := Lib.hid (Yc.out.below hb)
        replace HB : Hid (Below W.heap.size W w6) := Lib.hid (HB.out.trans (hb.mono HB.out.size))
        clear hb
        clear hO
        have hb : Below w6.heap.size w6 (w6.alloc (.cells #[.int .i64 0, .int .i64 0, .int .i64 0, .int .i64 0, .string ⟨#[]⟩, .slice V5 0 v5, .int .i64 0, .int .i64 0, .int .i64 0, .int .i64 0, .int .i64 0, .int .i64 0] 30)) := (Below.refl _ _).alloc (Nat.le_refl _) _
        replace Yc : Hid (Rz .u8 (w6.alloc (.cells #[.int .i64 0, .int .i64 0, .int .i64 0, .int .i64 0, .string ⟨#[]⟩, .slice V5 0 v5, .int .i64 0, .int .i64 0, .int .i64 0, .int .i64 0, .int .i64 0, .int .i64 0] 30)) A4 n4 zs4) := Lib.hid (Yc.out.below hb)
        replace HB : Hid (Below W.heap.size W (w6.alloc (.cells #[.int .i64 0, .int .i64 0, .int .i64 0, .int .i64 0, .string ⟨#[]⟩, .slice V5 0 v5, .int .i64 0, .int .i64 0, .int .i64 0, .int .i64 0, .int .i64 0, .int .i64 0] 30))) := Lib.hid (HB.out.trans (hb.mono HB.out.size))
        clear hb
        have By : Hid (Box (w6.heap.size) [.int .i64 0, .int .i64 0, .int .i64 0, .int .i64 0, .string ⟨#[]⟩, .slice V5 0 v5, .int .i64 0, .int .i64 0, .int .i64 0, .int .i64 0, .int .i64 0, .int .i64 0] (w6.alloc (.cells #[.int .i64 0, .int .i64 0, .int .i64 0, .int .i64 0, .string ⟨#[]⟩, .slice V5 0 v5, .int .i64 0, .int .i64 0, .int .i64 0, .int .i64 0, .int .i64 0, .int .i64 0] 30))) := Lib.hid (Box.new w6 #[.int .i64 0, .int .i64 0, .int .i64 0, .int .i64 0, .string ⟨#[]⟩, .slice V5 0 v5, .int .i64 0, .int .i64 0, .int .i64 0, .int .i64 0, .int .i64 0, .int .i64 0] 30)
        obtain ⟨zy0, zy1, zy2, zy3, zy4, zy5, zy6, zy7, zy8, zy9, zy10, zy11⟩ := By.out.c12
        go_wp2_with fail
        go_ret
        exact GivesBool.ret HB.out
      · obtain ⟨hok, hen⟩ := enc_dec HBY4.out hd
        have HD := Lib.hid hd
        clear hd
        obtain ⟨htw, hlw⟩ := decM_wires HBY4.out
        rw [HD.out] at htw hlw
        have GD : Hid (∀ (w w' : World) (e : Ending), GivesDM (decM zs4) w e w' → GivesD9 (at0 ns 0) (at0 ns 1) (at0 ns 2) (at0 ns 3) (bytesOf nm) (wiresL (ns.drop 11)) (wiresL (ns.drop 11)).length (at0 ns 8) (at0 ns 9) (at0 ns 4) (at0 ns 5) (at0 ns 6) (at0 ns 7) true w e w') := Lib.hid (fun w w' e h => by rw [HD.out] at h; exact h)
        have htw2 : ∀ d ∈ wiresL (ns.drop 11), Has tyWire d := htw
        have hlw2 : (wiresL (ns.drop 11)).length ≤ 2 := hlw
        clear htw hlw
        rw [okN] at hok
        obtain ⟨L, hL⟩ : ∃ L, wiresL (ns.drop 11) = L := ⟨_, rfl⟩
        rw [hL] at GD htw2 hlw2 hok hen
        clear hL
        obtain ⟨J, hJ⟩ : ∃ J, L.length = J := ⟨_, rfl⟩
        rw [hJ] at GD hlw2
        clear hJ
        obtain ⟨s, hs⟩ : ∃ s, bytesOf nm = s := ⟨_, rfl⟩
        rw [hs] at GD hok hen
        clear hs
        obtain ⟨a0, ha⟩ : ∃ a, at0 ns 0 = a := ⟨_, rfl⟩
        rw [ha] at GD hok hen
        clear ha
        obtain ⟨a1, ha⟩ : ∃ a, at0 ns 1 = a := ⟨_, rfl⟩
        rw [ha] at GD hok hen
        clear ha
        obtain ⟨a2, ha⟩ : ∃ a, at0 ns 2 = a := ⟨_, rfl⟩
        rw [ha] at GD hok hen
        clear ha
        obtain ⟨a3, ha⟩ : ∃ a, at0 ns 3 = a := ⟨_, rfl⟩
        rw [ha] at GD hok hen
        clear ha
        obtain ⟨a4, ha⟩ : ∃ a, at0 ns 4 = a := ⟨_, rfl⟩
        rw [ha] at GD hok hen
        clear ha
        obtain ⟨a5, ha⟩ : ∃ a, at0 ns 5 = a := ⟨_, rfl⟩
        rw [ha] at GD hok hen
        clear ha
        obtain ⟨a6, ha⟩ : ∃ a, at0 ns 6 = a := ⟨_, rfl⟩
        rw [ha] at GD hok hen
        clear ha
        obtain ⟨a7, ha⟩ : ∃ a, at0 ns 7 = a := ⟨_, rfl⟩
        rw [ha] at GD hok hen
        clear ha
        obtain ⟨a8, ha⟩ : ∃ a, at0 ns 8 = a := ⟨_, rfl⟩
        rw [ha] at GD hok hen
        clear ha
        obtain ⟨a9, ha⟩ : ∃ a, at0 ns 9 = a := ⟨_, rfl⟩
        rw [ha] at GD hok hen
        clear ha
        have HOK := Lib.hid hok
        have HEN := Lib.hid hen
        have HTW := Lib.hid htw2
        clear hok hen htw2
        go_wp2_with fail
        refine ((implDecM A4 n4 c4 zs4 _ Yc.out hc4 HBY4.out (by omega)).mono (fun e w' h => GD.out _ w' e h)).mono ?_
        rintro e w6 ⟨V5, v5, rfl, hO, hb⟩
        replace Yc : Hid (Rz .u8 w6 A4 n4 zs4) := Lib.hid (Yc.out.below hb)
        replace HB : Hid (Below W.heap.size W w6) := Lib.hid (HB.out.trans (hb.mono HB.out.size))
        clear hb
        have Ly := Lib.hid hO.lies
        clear hO
        have hb : Below w6.heap.size w6 (w6.alloc (.cells #[.int .i64 a0, .int .i64 a1, .int .i64 a2, .int .i64 a3, .string s, .slice V5 J v5, .int .i64 a8, .int .i64 a9, .int .i64 a4, .int .i64 a5, .int .i64 a6, .int .i64 a7] 30)) := (Below.refl _ _).alloc (Nat.le_refl _) _
        replace Ly : Hid (Lies (w6.alloc (.cells #[.int .i64 a0, .int .i64 a1, .int .i64 a2, .int .i64 a3, .string s, .slice V5 J v5, .int .i64 a8, .int .i64 a9, .int .i64 a4, .int .i64 a5, .int .i64 a6, .int .i64 a7] 30)) (.l L) [.slice V5 J v5]) := Lib.hid (Ly.out.below hb)
        replace Yc : Hid (Rz .u8 (w6.alloc (.cells #[.int .i64 a0, .int .i64 a1, .int .i64 a2, .int .i64 a3, .string s, .slice V5 J v5, .int .i64 a8, .int .i64 a9, .int .i64 a4, .int .i64 a5, .int .i64 a6, .int .i64 a7] 30)) A4 n4 zs4) := Lib.hid (Yc.out.below hb)
        replace HB : Hid (Below W.heap.size W (w6.alloc (.cells #[.int .i64 a0, .int .i64 a1, .int .i64 a2, .int .i64 a3, .string s, .slice V5 J v5, .int .i64 a8, .int .i64 a9, .int .i64 a4, .int .i64 a5, .int .i64 a6, .int .i64 a7] 30))) := Lib.hid (HB.out.trans (hb.mono HB.out.size))
        clear hb
        have By : Hid (Box (w6.heap.size) [.int .i64 a0, .int .i64 a1, .int .i64 a2, .int .i64 a3, .string s, .slice V5 J v5, .int .i64 a8, .int .i64 a9, .int .i64 a4, .int .i64 a5, .int .i64 a6, .int .i64 a7] (w6.alloc (.cells #[.int .i64 a0, .int .i64 a1, .int .i64 a2, .int .i64 a3, .string s, .slice V5 J v5, .int .i64 a8, .int .i64 a9, .int .i64 a4, .int .i64 a5, .int .i64 a6, .int .i64 a7] 30))) := Lib.hid (Box.new w6 #[.int .i64 a0, .int .i64 a1, .int .i64 a2, .int .i64 a3, .string s, .slice V5 J v5, .int .i64 a8, .int .i64 a9, .int .i64 a4, .int .i64 a5, .int .i64 a6, .int .i64 a7] 30)
        obtain ⟨zy0, zy1, zy2, zy3, zy4, zy5, zy6, zy7, zy8, zy9, zy10, zy11⟩ := By.out.c12
        go_wp2_with fail
        refine (implIsMsg a0 a1 a2 a3 s L V5 J v5 a8 a9 a4 a5 a6 a7 _ Ly.out HTW.out (by omega)).mono ?_
        rintro e w7 ⟨rfl, hb⟩
        clear zy0 zy1 zy2 zy3 zy4 zy5 zy6 zy7 zy8 zy9 zy10 zy11
        rw [HOK.out]
        replace By : Hid (Box (w6.heap.size) [.int .i64 a0, .int .i64 a1, .int .i64 a2, .int .i64 a3, .string s, .slice V5 J v5, .int .i64 a8, .int .i64 a9, .int .i64 a4, .int .i64 a5, .int .i64 a6, .int .i64 a7] w7) := Lib.hid (By.out.below hb)
        replace Ly : Hid (Lies w7 (.l L) [.slice V5 J v5]) := Lib.hid (Ly.out.below hb)
        replace Yc : Hid (Rz .u8 w7 A4 n4 zs4) := Lib.hid (Yc.out.below hb)
        replace HB : Hid (Below W.heap.size W w7) := Lib.hid (HB.out.trans (hb.mono HB.out.size))
        clear hb
        obtain ⟨zy0, zy1, zy2, zy3, zy4, zy5, zy6, zy7, zy8, zy9, zy10, zy11⟩ := By.out.c12
        go_wp2_with fail
        refine (implEnc a0 a1 a2 a3 s L V5 J v5 a8 a9 a4 a5 a6 a7 _ Ly.out HTW.out (by omega)).mono ?_
        rintro e w8 ⟨A6, n6, c6, rfl, hO, hb⟩
        clear zy0 zy1 zy2 zy3 zy4 zy5 zy6 zy7 zy8 zy9 zy10 zy11
        replace By : Hid (Box (w6.heap.size) [.int .i64 a0, .int .i64 a1, .int .i64 a2, .int .i64 a3, .string s, .slice V5 J v5, .int .i64 a8, .int .i64 a9, .int .i64 a4, .int .i64 a5, .int .i64 a6, .int .i64 a7] w8) := Lib.hid (By.out.below hb)
        replace Ly : Hid (Lies w8 (.l L) [.slice V5 J v5]) := Lib.hid (Ly.out.below hb)
        replace Yc : Hid (Rz .u8 w8 A4 n4 zs4) := Lib.hid (Yc.out.below hb)
        replace HB : Hid (Below W.heap.size W w8) := Lib.hid (HB.out.trans (hb.mono HB.out.size))
        clear hb
        have Ye : Hid (Rz .u8 w8 A6 n6 zs4) := Lib.hid (by have h1 := hO.rz; rw [HEN.out] at h1; exact h1)
        have hn6 : n6 ≤ 1099511627776 := by have h1 := Ye.out.1; have h2 := Yc.out.1; omega
        clear hO
        obtain ⟨zy0, zy1, zy2, zy3, zy4, zy5, zy6, zy7, zy8, zy9, zy10, zy11⟩ := By.out.c12
        go_wp2_with fail
        refine (sameB A6 A4 n6 n4 c6 c4 zs4 zs4 _ Ye.out Yc.out rfl hn6).mono ?_
        rintro e w9 ⟨rfl, hb⟩
        clear zy0 zy1 zy2 zy3 zy4 zy5 zy6 zy7 zy8 zy9 zy10 zy11
        replace By : Hid (Box (w6.heap.size) [.int .i64 a0, .int .i64 a1, .int .i64 a2, .int .i64 a3, .string s, .slice V5 J v5, .int .i64 a8, .int .i64 a9, .int .i64 a4, .int .i64 a5, .int .i64 a6, .int .i64 a7] w9) := Lib.hid (By.out.below hb)
        replace Ly : Hid (Lies w9 (.l L) [.slice V5 J v5]) := Lib.hid (Ly.out.below hb)
        replace Yc : Hid (Rz .u8 w9 A4 n4 zs4) := Lib.hid (Yc.out.below hb)
        replace Ye : Hid (Rz .u8 w9 A6 n6 zs4) := Lib.hid (Ye.out.below hb)
        replace HB : Hid (Below W.heap.size W w9) := Lib.hid (HB.out.trans (hb.mono HB.out.size))
        clear hb
        obtain ⟨zy0, zy1, zy2, zy3, zy4, zy5, zy6, zy7, zy8, zy9, zy10, zy11⟩ := By.out.c12
        go_wp2_with fail
        go_ret
        exact GivesBool.ret HB.out
    · skip
      have HV : Hid (msgB f0 f1 f2 f3 f4 L5 f6_0 f6_1 f7 f8_0 f8_1 f8_2 = true) := Lib.hid hv
      clear hv
      go_wp2_with fail
      refine ((implDecM A1 n1 c1 _ _ Yb.out hcap1 HBY1.out (by omega)).mono (fun e w' h => dec_msg HV.out HTY.out h)).mono ?_
      rintro e w3 ⟨X5, x5, rfl, hO, hb⟩
      replace Bm : Hid (Box (w1.heap.size) [.int .i64 f0, .int .i64 f1, .int .i64 f2, .int .i64 f3, .string f4, .slice A5 n5 c5, .int .i64 f6_0, .int .i64 f6_1, .int .i64 f7, .int .i64 f8_0, .int .i64 f8_1, .int .i64 f8_2] w3) := Lib.hid (Bm.out.below hb)
      replace Lm : Hid (Lies w3 (.l L5) [.slice A5 n5 c5]) := Lib.hid (Lm.out.below hb)
      replace Yb : Hid (Rz .u8 w3 A1 n1 (encM f0 f1 f2 f3 f4 L5 f6_0 f6_1 f7 f8_0 f8_1 f8_2)) := Lib.hid (Yb.out.below hb)
      replace HB : Hid (Below W.heap.size W w3) := Lib.hid (HB.out.trans (hb.mono HB.out.size))
      clear hb
      have Lx : Hid (Lies w3 (.l L5) [.slice X5 n5 x5]) := Lib.hid (by have h1 := hO.lies; rw [HC5.out] at h1; exact h1)
      clear hO
      rw [HC5.out]
      have hb : Below w3.heap.size w3 (w3.alloc (.cells #[.int .i64 f0, .int .i64 f1, .int .i64 f2, .int .i64 f3, .string f4, .slice X5 n5 x5, .int .i64 f6_0, .int .i64 f6_1, .int .i64 f7, .int .i64 f8_0, .int .i64 f8_1, .int .i64 f8_2] 30)) := (Below.refl _ _).alloc (Nat.le_refl _) _
      replace Bm : Hid (Box (w1.heap.size) [.int .i64 f0, .int .i64 f1, .int .i64 f2, .int .i64 f3, .string f4, .slice A5 n5 c5, .int .i64 f6_0, .int .i64 f6_1, .int .i64 f7, .int .i64 f8_0, .int .i64 f8_1, .int .i64 f8_2] (w3.alloc (.cells #[.int .i64 f0, .int .i64 f1, .int .i64 f2, .int .i64 f3, .string f4, .slice X5 n5 x5, .int .i64 f6_0, .int .i64 f6_1, .int .i64 f7, .int .i64 f8_0, .int .i64 f8_1, .int .i64 f8_2] 30))) := Lib.hid (Bm.out.below hb)
      replace Lm : Hid (Lies (w3.alloc (.cells #[.int .i64 f0, .int .i64 f1, .int .i64 f2, .int .i64 f3, .string f4, .slice X5 n5 x5, .int .i64 f6_0, .int .i64 f6_1, .int .i64 f7, .int .i64 f8_0, .int .i64 f8_1, .int .i64 f8_2] 30)) (.l L5) [.slice A5 n5 c5]) := Lib.hid (Lm.out.below hb)
      replace Lx : Hid (Lies (w3.alloc (.cells #[.int .i64 f0, .int .i64 f1, .int .i64 f2, .int .i64 f3, .string f4, .slice X5 n5 x5, .int .i64 f6_0, .int .i64 f6_1, .int .i64 f7, .int .i64 f8_0, .int .i64 f8_1, .int .i64 f8_2] 30)) (.l L5) [.slice X5 n5 x5]) := Lib.hid (Lx.out.below hb)
      replace Yb : Hid (Rz .u8 (w3.alloc (.cells #[.int .i64 f0, .int .i64 f1, .int .i64 f2, .int .i64 f3, .string f4, .slice X5 n5 x5, .int .i64 f6_0, .int .i64 f6_1, .int .i64 f7, .int .i64 f8_0, .int .i64 f8_1, .int .i64 f8_2] 30)) A1 n1 (encM f0 f1 f2 f3 f4 L5 f6_0 f6_1 f7 f8_0 f8_1 f8_2)) := Lib.hid (Yb.out.below hb)
      replace HB : Hid (Below W.heap.size W (w3.alloc (.cells #[.int .i64 f0, .int .i64 f1, .int .i64 f2, .int .i64 f3, .string f4, .slice X5 n5 x5, .int .i64 f6_0, .int .i64 f6_1, .int .i64 f7, .int .i64 f8_0, .int .i64 f8_1, .int .i64 f8_2] 30))) := Lib.hid (HB.out.trans (hb.mono HB.out.size))
      clear hb
      have Bx : Hid (Box (w3.heap.size) [.int .i64 f0, .int .i64 f1, .int .i64 f2, .int .i64 f3, .string f4, .slice X5 n5 x5, .int .i64 f6_0, .int .i64 f6_1, .int .i64 f7, .int .i64 f8_0, .int .i64 f8_1, .int .i64 f8_2] (w3.alloc (.cells #[.int .i64 f0, .int .i64 f1, .int .i64 f2, .int .i64 f3, .string f4, .slice X5 n5 x5, .int .i64 f6_0, .int .i64 f6_1, .int .i64 f7, .int .i64 f8_0, .int .i64 f8_1, .int .i64 f8_2] 30))) := Lib.hid (Box.new w3 #[.int .i64 f0, .int .i64 f1, .int .i64 f2, .int .i64 f3, .string f4, .slice X5 n5 x5, .int .i64 f6_0, .int .i64 f6_1, .int .i64 f7, .int .i64 f8_0, .int .i64 f8_1, .int .i64 f8_2] 30)
      obtain ⟨zm0, zm1, zm2, zm3, zm4, zm5, zm6, zm7, zm8, zm9, zm10, zm11⟩ := Bm.out.c12
      obtain ⟨zx0, zx1, zx2, zx3, zx4, zx5, zx6, zx7, zx8, zx9, zx10, zx11⟩ := Bx.out.c12
      go_wp2_with fail
      refine (specIsMsg f0 f1 f2 f3 f4 L5 A5 n5 c5 f6_0 f6_1 f7 f8_0 f8_1 f8_2 _ Lm.out HTY.out (by omega) hs4).mono ?_
      rintro e w4 ⟨rfl, hb⟩
      clear zm0 zm1 zm2 zm3 zm4 zm5 zm6 zm7 zm8 zm9 zm10 zm11
      clear zx0 zx1 zx2 zx3 zx4 zx5 zx6 zx7 zx8 zx9 zx10 zx11
      rw [HV.out]
      replace Bm : Hid (Box (w1.heap.size) [.int .i64 f0, .int .i64 f1, .int .i64 f2, .int .i64 f3, .string f4, .slice A5 n5 c5, .int .i64 f6_0, .int .i64 f6_1, .int .i64 f7, .int .i64 f8_0, .int .i64 f8_1, .int .i64 f8_2] w4) := Lib.hid (Bm.out.below hb)
      replace Bx : Hid (Box (w3.heap.size) [.int .i64 f0, .int .i64 f1, .int .i64 f2, .int .i64 f3, .string f4, .slice X5 n5 x5, .int .i64 f6_0, .int .i64 f6_1, .int .i64 f7, .int .i64 f8_0, .int .i64 f8_1, .int .i64 f8_2] w4) := Lib.hid (Bx.out.below hb)
      replace Lm : Hid (Lies w4 (.l L5) [.slice A5 n5 c5]) := Lib.hid (Lm.out.below hb)
      replace Lx : Hid (Lies w4 (.l L5) [.slice X5 n5 x5]) := Lib.hid (Lx.out.below hb)
      replace Yb : Hid (Rz .u8 w4 A1 n1 (encM f0 f1 f2 f3 f4 L5 f6_0 f6_1 f7 f8_0 f8_1 f8_2)) := Lib.hid (Yb.out.below hb)
      replace HB : Hid (Below W.heap.size W w4) := Lib.hid (HB.out.trans (hb.mono HB.out.size))
      clear hb
      obtain ⟨zm0, zm1, zm2, zm3, zm4, zm5, zm6, zm7, zm8, zm9, zm10, zm11⟩ := Bm.out.c12
      obtain ⟨zx0, zx1, zx2, zx3, zx4, zx5, zx6, zx7, zx8, zx9, zx10, zx11⟩ := Bx.out.c12
      go_wp2_with fail
      refine (implEqMsg f0 f1 f2 f3 f4 L5 X5 n5 x5 f6_0 f6_1 f7 f8_0 f8_1 f8_2 f0 f1 f2 f3 f4 L5 A5 n5 c5 f6_0 f6_1 f7 f8_0 f8_1 f8_2 _ Lx.out Lm.out HTY.out HTY.out (by omega)).mono ?_
      rintro e w5 ⟨rfl, hb⟩
      clear zm0 zm1 zm2 zm3 zm4 zm5 zm6 zm7 zm8 zm9 zm10 zm11
      clear zx0 zx1 zx2 zx3 zx4 zx5 zx6 zx7 zx8 zx9 zx10 zx11
      rw [eq1_yes]
      replace Bm : Hid (Box (w1.heap.size) [.int .i64 f0, .int .i64 f1, .int .i64 f2, .int .i64 f3, .string f4, .slice A5 n5 c5, .int .i64 f6_0, .int .i64 f6_1, .int .i64 f7, .int .i64 f8_0, .int .i64 f8_1, .int .i64 f8_2] w5) := Lib.hid (Bm.out.below hb)
      replace Bx : Hid (Box (w3.heap.size) [.int .i64 f0, .int .i64 f1, .int .i64 f2, .int .i64 f3, .string f4, .slice X5 n5 x5, .int .i64 f6_0, .int .i64 f6_1, .int .i64 f7, .int .i64 f8_0, .int .i64 f8_1, .int .i64 f8_2] w5) := Lib.hid (Bx.out.below hb)
      replace Lm : Hid (Lies w5 (.l L5) [.slice A5 n5 c5]) := Lib.hid (Lm.out.below hb)
      replace Lx : Hid (Lies w5 (.l L5) [.slice X5 n5 x5]) := Lib.hid (Lx.out.below hb)
      replace Yb : Hid (Rz .u8 w5 A1 n1 (encM f0 f1 f2 f3 f4 L5 f6_0 f6_1 f7 f8_0 f8_1 f8_2)) := Lib.hid (Yb.out.below hb)
      replace HB : Hid (Below W.heap.size W w5) := Lib.hid (HB.out.trans (hb.mono HB.out.size))
      clear hb
      go_wp2_with fail
      refine (drawDec A n c _ (HC.out.low9 HB.out) hn).mono ?_
      rintro e w6 ⟨A4, n4, c4, zs4, rfl, hR4, hc4, hby4, hn4, hb⟩
      replace HB : Hid (Below W.heap.size W w6) := Lib.hid (HB.out.trans (hb.mono HB.out.size))
      clear hb
      have Yc := Lib.hid hR4
      have HBY4 := Lib.hid hby4
      clear hR4 hby4
      rcases hd : decM zs4 with _ | ⟨ns, nm⟩
      · have HD := Lib.hid hd
        clear hd
        go_wp2_with fail
        refine ((implDecM A4 n4 c4 zs4 _ Yc.out hc4 HBY4.out (by omega)).mono (fun e w' h => (by rw [HD.out] at h; exact h : GivesD9 0 0 0 0 ⟨#[]⟩ [] 0 0 0 0 0 0 0 false _ e w'))).mono ?_
        rintro e w7 ⟨V5, v5, rfl, hO, hb⟩
        replace Yc : Hid (Rz .u8 w7 A4 n4 zs4) := Lib.hid (Yc.out.below hb)
        replace HB : Hid (Below W.heap.size W w7) := Lib.hid (HB.out.trans (hb.mono HB.out.size))
        clear hb
        clear hO
        have hb : Below w7.heap.size w7 (w7.alloc (.cells #[.int .i64 0, .int .i64 0, .int .i64 0, .int .i64 0, .string ⟨#[]⟩, .slice V5 0 v5, .int .i64 0, .int .i64 0, .int .i64 0, .int .i64 0, .int .i64 0, .int .i64 0] 30)) := (Below.refl _ _).alloc (Nat.le_refl _) _
        replace Yc : Hid (Rz .u8 (w7.alloc (.cells #[.int .i64 0, .int .i64 0, .int .i64 0, .int .i64 0, .string ⟨#[]⟩, .slice V5 0 v5, .int .i64 0, .int .i64 0, .int .i64 0, .int .i64 0, .int .i64 0, .int .i64 0] 30)) A4 n4 zs4) := Lib.hid (Yc.out.below hb)
        replace HB : Hid (Below W.heap.size W (w7.alloc (.cells #[.int .i64 0, .int .i64 0, .int .i64 0, .int .i64 0, .string ⟨#[]⟩, .slice V5 0 v5, .int .i64 0, .int .i64 0, .int .i64 0, .int .i64 0, .int .i64 0, .int .i64 0] 30))) := Lib.hid (HB.out.trans (hb.mono HB.out.size))
        clear hb
        have By : Hid (Box (w7.heap.size) [.int .i64 0, .int .i64 0, .int .i64 0, .int .i64 0, .string ⟨#[]⟩, .slice V5 0 v5, .int .i64 0, .int .i64 0, .int .i64 0, .int .i64 0, .int .i64 0, .int .i64 0] (w7.alloc (.cells #[.int .i64 0, .int .i64 0, .int .i64 0, .int .i64 0, .string ⟨#[]⟩, .slice V5 0 v5, .int .i64 0, .int .i64 0, .int .i64 0, .int .i64 0, .int .i64 0, .int .i64 0] 30))) := Lib.hid (Box.new w7 #[.int .i64 0, .int .i64 0, .int .i64 0, .int .i64 0, .string ⟨#[]⟩, .slice V5 0 v5, .int .i64 0, .int .i64 0, .int .i64 0, .int .i64 0, .int .i64 0, .int .i64 0] 30)
        obtain ⟨zy0, zy1, zy2, zy3, zy4, zy5, zy6, zy7, zy8, zy9, zy10, zy11⟩ := By.out.c12
        go_wp2_with fail
        go_ret
        exact GivesBool.ret HB.out
      · obtain ⟨hok, hen⟩ := enc_dec HBY4.out hd
        have HD := Lib.hid hd
        clear hd
        obtain ⟨htw, hlw⟩ := decM_wires HBY4.out
        rw [HD.out] at htw hlw
        have GD : Hid (∀ (w w' : World) (e : Ending), GivesDM (decM zs4) w e w' → GivesD9 (at0 ns 0) (at0 ns 1) (at0 ns 2) (at0 ns 3) (bytesOf nm) (wiresL (ns.drop 11)) (wiresL (ns.drop 11)).length (at0 ns 8) (at0 ns 9) (at0 ns 4) (at0 ns 5) (at0 ns 6) (at0 ns 7) true w e w') := Lib.hid (fun w w' e h => by rw [HD.out] at h; exact h)
        have htw2 : ∀ d ∈ wiresL (ns.drop 11), Has tyWire d := htw
        have hlw2 : (wiresL (ns.drop 11)).length ≤ 2 := hlw
        clear htw hlw
        rw [okN] at hok
        obtain ⟨L, hL⟩ : ∃ L, wiresL (ns.drop 11) = L := ⟨_, rfl⟩
        rw [hL] at GD htw2 hlw2 hok hen
        clear hL
        obtain ⟨J, hJ⟩ : ∃ J, L.length = J := ⟨_, rfl⟩
        rw [hJ] at GD hlw2
        clear hJ
        obtain ⟨s, hs⟩ : ∃ s, bytesOf nm = s := ⟨_, rfl⟩
        rw [hs] at GD hok hen
        clear hs
        obtain ⟨a0, ha⟩ : ∃ a, at0 ns 0 = a := ⟨_, rfl⟩
        rw [ha] at GD hok hen
        clear ha
        obtain ⟨a1, ha⟩ : ∃ a, at0 ns 1 = a := ⟨_, rfl⟩
        rw [ha] at GD hok hen
        clear ha
        obtain ⟨a2, ha⟩ : ∃ a, at0 ns 2 = a := ⟨_, rfl⟩
        rw [ha] at GD hok hen
        clear ha
        obtain ⟨a3, ha⟩ : ∃ a, at0 ns 3 = a := ⟨_, rfl⟩
        rw [ha] at GD hok hen
        clear ha
        obtain ⟨a4, ha⟩ : ∃ a, at0 ns 4 = a := ⟨_, rfl⟩
        rw [ha] at GD hok hen
        clear ha
        obtain ⟨a5, ha⟩ : ∃ a, at0 ns 5 = a := ⟨_, rfl⟩
        rw [ha] at GD hok hen
        clear ha
        obtain ⟨a6, ha⟩ : ∃ a, at0 ns 6 = a := ⟨_, rfl⟩
        rw [ha] at GD hok hen
        clear ha
        obtain ⟨a7, ha⟩ : ∃ a, at0 ns 7 = a := ⟨_, rfl⟩
        rw [ha] at GD hok hen
        clear ha
        obtain ⟨a8, ha⟩ : ∃ a, at0 ns 8 = a := ⟨_, rfl⟩
        rw [ha] at GD hok hen
        clear ha
        obtain ⟨a9, ha⟩ : ∃ a, at0 ns 9 = a := ⟨_, rfl⟩
        rw [ha] at GD hok hen
        clear ha
        have HOK := Lib.hid hok
        have HEN := Lib.hid hen
        have HTW := Lib.hid htw2
        clear hok hen htw2
        go_wp2_with fail
        refine ((implDecM A4 n4 c4 zs4 _ Yc.out hc4 HBY4.out (by omega)).mono (fun e w' h => GD.out _ w' e h)).mono ?_
        rintro e w7 ⟨V5, v5, rfl, hO, hb⟩
        replace Yc : Hid (Rz .u8 w7 A4 n4 zs4) := Lib.hid (Yc.out.below hb)
        replace HB : Hid (Below W.heap.size W w7) := Lib.hid (HB.out.trans (hb.mono HB.out.size))
        clear hb
        have Ly := Lib.hid hO.lies
        clear hO
        have hb : Below w7.heap.size w7 (w7.alloc (.cells #[.int .i64 a0, .int .i64 a1, .int .i64 a2, .int .i64 a3, .string s, .slice V5 J v5, .int .i64 a8, .int .i64 a9, .int .i64 a4, .int .i64 a5, .int .i64 a6, .int .i64 a7] 30)) := (Below.refl _ _).alloc (Nat.le_refl _) _
        replace Ly : Hid (Lies (w7.alloc (.cells #[.int .i64 a0, .int .i64 a1, .int .i64 a2, .int .i64 a3, .string s, .slice V5 J v5, .int .i64 a8, .int .i64 a9, .int .i64 a4, .int .i64 a5, .int .i64 a6, .int .i64 a7] 30)) (.l L) [.slice V5 J v5]) := Lib.hid (Ly.out.below hb)
        replace Yc : Hid (Rz .u8 (w7.alloc (.cells #[.int .i64 a0, .int .i64 a1, .int .i64 a2, .int .i64 a3, .string s, .slice V5 J v5, .int .i64 a8, .int .i64 a9, .int .i64 a4, .int .i64 a5, .int .i64 a6, .int .i64 a7] 30)) A4 n4 zs4) := Lib.hid (Yc.out.below hb)
        replace HB : Hid (Below W.heap.size W (w7.alloc (.cells #[.int .i64 a0, .int .i64 a1, .int .i64 a2, .int .i64 a3, .string s, .slice V5 J v5, .int .i64 a8, .int .i64 a9, .int .i64 a4, .int .i64 a5, .int .i64 a6, .int .i64 a7] 30))) := Lib.hid (HB.out.trans (hb.mono HB.out.size))
        clear hb
        have By : Hid (Box (w7.heap.size) [.int .i64 a0, .int .i64 a1, .int .i64 a2, .int .i64 a3, .string s, .slice V5 J v5, .int .i64 a8, .int .i64 a9, .int .i64 a4, .int .i64 a5, .int .i64 a6, .int .i64 a7] (w7.alloc (.cells #[.int .i64 a0, .int .i64 a1, .int .i64 a2, .int .i64 a3, .string s, .slice V5 J v5, .int .i64 a8, .int .i64 a9, .int .i64 a4, .int .i64 a5, .int .i64 a6, .int .i64 a7] 30))) := Lib.hid (Box.new w7 #[.int .i64 a0, .int .i64 a1, .int .i64 a2, .int .i64 a3, .string s, .slice V5 J v5, .int .i64 a8, .int .i64 a9, .int .i64 a4, .int .i64 a5, .int .i64 a6, .int .i64 a7] 30)
        obtain ⟨zy0, zy1, zy2, zy3, zy4, zy5, zy6, zy7, zy8, zy9, zy10, zy11⟩ := By.out.c12
        go_wp2_with fail
        refine (implIsMsg a0 a1 a2 a3 s L V5 J v5 a8 a9 a4 a5 a6 a7 _ Ly.out HTW.out (by omega)).mono ?_
        rintro e w8 ⟨rfl, hb⟩
        clear zy0 zy1 zy2 zy3 zy4 zy5 zy6 zy7 zy8 zy9 zy10 zy11
        rw [HOK.out]
        replace By : Hid (Box (w7.heap.size) [.int .i64 a0, .int .i64 a1, .int .i64 a2, .int .i64 a3, .string s, .slice V5 J v5, .int .i64 a8, .int .i64 a9, .int .i64 a4, .int .i64 a5, .int .i64 a6, .int .i64 a7] w8) := Lib.hid (By.out.below hb)
        replace Ly : Hid (Lies w8 (.l L) [.slice V5 J v5]) := Lib.hid (Ly.out.below hb)
        replace Yc : Hid (Rz .u8 w8 A4 n4 zs4) := Lib.hid (Yc.out.below hb)
        replace HB : Hid (Below W.heap.size W w8) := Lib.hid (HB.out.trans (hb.mono HB.out.size))
        clear hb
        obtain ⟨zy0, zy1, zy2, zy3, zy4, zy5, zy6, zy7, zy8, zy9, zy10, zy11⟩ := By.out.c12
        go_wp2_with fail
        refine (implEnc a0 a1 a2 a3 s L V5 J v5 a8 a9 a4 a5 a6 a7 _ Ly.out HTW.out (by omega)).mono ?_
        rintro e w9 ⟨A6, n6, c6, rfl, hO, hb⟩
        clear zy0 zy1 zy2 zy3 zy4 zy5 zy6 zy7 zy8 zy9 zy10 zy11
        replace By : Hid (Box (w7.heap.size) [.int .i64 a0, .int .i64 a1, .int .i64 a2, .int .i64 a3, .string s, .slice V5 J v5, .int .i64 a8, .int .i64 a9, .int .i64 a4, .int .i64 a5, .int .i64 a6, .int .i64 a7] w9) := Lib.hid (By.out.below hb)
        replace Ly : Hid (Lies w9 (.l L) [.slice V5 J v5]) := Lib.hid (Ly.out.below hb)
        replace Yc : Hid (Rz .u8 w9 A4 n4 zs4) := Lib.hid (Yc.out.below hb)
        replace HB : Hid (Below W.heap.size W w9) := Lib.hid (HB.out.trans (hb.mono HB.out.size))
        clear hb
        have Ye : Hid (Rz .u8 w9 A6 n6 zs4) := Lib.hid (by have h1 := hO.rz; rw [HEN.out] at h1; exact h1)
        have hn6 : n6 ≤ 1099511627776 := by have h1 := Ye.out.1; have h2 := Yc.out.1; omega
        clear hO
        obtain ⟨zy0, zy1, zy2, zy3, zy4, zy5, zy6, zy7, zy8, zy9, zy10, zy11⟩ := By.out.c12
        go_wp2_with fail
        refine (sameB A6 A4 n6 n4 c6 c4 zs4 zs4 _ Ye.out Yc.out rfl hn6).mono ?_
        rintro e w10 ⟨rfl, hb⟩
        clear zy0 zy1 zy2 zy3 zy4 zy5 zy6 zy7 zy8 zy9 zy10 zy11
        replace By : Hid (Box (w7.heap.size) [.int .i64 a0, .int .i64 a1, .int .i64 a2, .int .i64 a3, .string s, .slice V5 J v5, .int .i64 a8, .int .i64 a9, .int .i64 a4, .int .i64 a5, .int .i64 a6, .int .i64 a7] w10) := Lib.hid (By.out.below hb)
        replace Ly : Hid (Lies w10 (.l L) [.slice V5 J v5]) := Lib.hid (Ly.out.below hb)
        replace Yc : Hid (Rz .u8 w10 A4 n4 zs4) := Lib.hid (Yc.out.below hb)
        replace Ye : Hid (Rz .u8 w10 A6 n6 zs4) := Lib.hid (Ye.out.below hb)
        replace HB : Hid (Below W.heap.size W w10) := Lib.hid (HB.out.trans (hb.mono HB.out.size))
        clear hb
        obtain ⟨zy0, zy1, zy2, zy3, zy4, zy5, zy6, zy7, zy8, zy9, zy10, zy11⟩ := By.out.c12
        go_wp2_with fail
        go_ret
        exact GivesBool.ret HB.out
  · go_enter Try.func3, Try.ntmps3
    go_wp2_with fail
    refine (big_yes A n c _ hn).mono ?_
    rintro e w' ⟨rfl, rfl⟩
    go_wp2_with fail
    go_ret
    exact GivesBool.ret (Below.refl _ _)
end Go.Proofs.Ytchofnligbgigaa
