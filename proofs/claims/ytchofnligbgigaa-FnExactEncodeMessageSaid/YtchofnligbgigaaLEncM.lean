/- Exact laws of chapter 11: EncodeMessage. -/
import Derived.Test.YtchofnligbgigaaLawM0
import Derived.Test.YtchofnligbgigaaEncI
import Derived.Test.YtchofnligbgigaaEncR
import Derived.Test.YtchofnligbgigaaMarkM
import Derived.Test.YtchofnligbgigaaTyM2
import Derived.Test.YtchofnligbgigaaTyM4
import Derived.Test.YtchofnligbgigaaTyM5
import Derived.Deep.RegionHeld3
import Derived.LoopTactic
import Derived.Lib.Hide
import Derived.Deep.QuietTactic
import Derived.BigQuiet
import Derived.Deep.RegionWith
import Derived.Handy
namespace Go.Proofs.Ytchofnligbgigaa
open Go.RowKit
set_option linter.unusedVariables false
set_option linter.unusedSimpArgs false
theorem encM_len (f0 f1 f2 f3 : Int) (f4 : ByteArray) (L5 : List Dat) (f6_0 f6_1 f7 f8_0 f8_1 f8_2 : Int) : (encM f0 f1 f2 f3 f4 L5 f6_0 f6_1 f7 f8_0 f8_1 f8_2).length ≤ 1048577 := by
  unfold encM
  split
  · rename_i h
    have hin := msg_in h
    have h1 := encL_len (numsM f0 f1 f2 f3 L5 f6_0 f6_1 f7 f8_0 f8_1 f8_2)
    have h2 := nums_len f0 f1 f2 f3 L5 f6_0 f6_1 f7 f8_0 f8_1 f8_2
    have h3 := encU_len ((strI f4).length : Int)
    have h4 := strI_len f4
    have h5 := hin.i4
    have h6 := hin.i5.1
    simp only [List.length_append]
    omega
  · simp
set_option maxRecDepth 100000 in
set_option maxHeartbeats 16000000 in
theorem law_EncodeMessage (f0 : Int) (f1 : Int) (f2 : Int) (f3 : Int) (f4 : ByteArray) (L5 : List Dat) (A5 : Option Addr) (n5 c5 : Nat) (f6_0 : Int) (f6_1 : Int) (f7 : Int) (f8_0 : Int) (f8_1 : Int) (f8_2 : Int) (W : World) (hf4 : f4.size ≤ 9223372036854775807) (hl5 : Lies W (.l L5) [.slice A5 n5 c5]) (ht5 : ∀ x ∈ L5, Has tyWire x) (hm5 : n5 ≤ 9223372036854775807) :
    Calls Try.prog 7 #[.agg #[.int .i64 f0, .int .i64 f1, .int .i64 f2, .int .i64 f3, .string f4, .slice A5 n5 c5, .int .i64 f6_0, .int .i64 f6_1, .int .i64 f7, .int .i64 f8_0, .int .i64 f8_1, .int .i64 f8_2]] W (GivesBool true W) := by
  have hc5 := Lib.hid hl5.count
  have Z5 := Lib.hid hl5
  clear hl5
  have HT : Hid (Below W.heap.size W W) := Lib.hid (Below.refl _ _)
  have hb : Below W.heap.size W (W.alloc (.cells #[.int .i64 f0, .int .i64 f1, .int .i64 f2, .int .i64 f3, .string f4, .slice A5 n5 c5, .int .i64 f6_0, .int .i64 f6_1, .int .i64 f7, .int .i64 f8_0, .int .i64 f8_1, .int .i64 f8_2] 46)) := (Below.refl _ _).alloc (Nat.le_refl _) _
  replace HT : Hid (Below W.heap.size W (W.alloc (.cells #[.int .i64 f0, .int .i64 f1, .int .i64 f2, .int .i64 f3, .string f4, .slice A5 n5 c5, .int .i64 f6_0, .int .i64 f6_1, .int .i64 f7, .int .i64 f8_0, .int .i64 f8_1, .int .i64 f8_2] 46))) := Lib.hid (HT.out.trans (hb.mono HT.out.size))
  clear hb
  have Ba : Hid (Box (W.heap.size) [.int .i64 f0, .int .i64 f1, .int .i64 f2, .int .i64 f3, .string f4, .slice A5 n5 c5, .int .i64 f6_0, .int .i64 f6_1, .int .i64 f7, .int .i64 f8_0, .int .i64 f8_1, .int .i64 f8_2] (W.alloc (.cells #[.int .i64 f0, .int .i64 f1, .int .i64 f2, .int .i64 f3, .string f4, .slice A5 n5 c5, .int .i64 f6_0, .int .i64 f6_1, .int .i64 f7, .int .i64 f8_0, .int .i64 f8_1, .int .i64 f8_2] 46))) := Lib.hid (by have h1 := Box.new W #[.int .i64 f0, .int .i64 f1, .int .i64 f2, .int .i64 f3, .string f4, .slice A5 n5 c5, .int .i64 f6_0, .int .i64 f6_1, .int .i64 f7, .int .i64 f8_0, .int .i64 f8_1, .int .i64 f8_2] 46; (try simp only [World.size_alloc] at h1); exact h1)
  rcases leftD_cases (.r [.i f0, .i f1, .i f2, .i f3, .s f4, .l L5, .r [.i f6_0, .i f6_1], .i f7, .r [.i f8_0, .i f8_1, .i f8_2]]) 1048576 with hbig | ⟨r, hr, hr0, hr1, hbk⟩
  case inl =>
    have HBIG := Lib.hid hbig
    clear hbig
    go_enter Try.func7, Try.ntmps7
    obtain ⟨za0, za1, za2, za3, za4, za5, za6, za7, za8, za9, za10, za11⟩ := Ba.out.c12
    go_wp2_with fail
    refine (szMessage f0 f1 f2 f3 f4 L5 A5 n5 c5 f6_0 f6_1 f7 f8_0 f8_1 f8_2 1048576 _ (by omega) (by omega) hf4 (Z5.out.below HT.out) ht5 hm5).mono ?_
    rintro e w1 ⟨rfl, hb⟩
    rw [HBIG.out]
    clear za0 za1 za2 za3 za4 za5 za6 za7 za8 za9 za10 za11
    replace Ba : Hid (Box (W.heap.size) [.int .i64 f0, .int .i64 f1, .int .i64 f2, .int .i64 f3, .string f4, .slice A5 n5 c5, .int .i64 f6_0, .int .i64 f6_1, .int .i64 f7, .int .i64 f8_0, .int .i64 f8_1, .int .i64 f8_2] w1) := Lib.hid (Ba.out.below hb)
    replace HT : Hid (Below W.heap.size W w1) := Lib.hid (HT.out.trans (hb.mono HT.out.size))
    have hsw1 : W.heap.size + 1 ≤ w1.heap.size := (by have h1 := hb.size; (try simp only [World.size_alloc] at h1); exact h1)
    clear hb
    go_wp2_with fail
    go_ret
    exact GivesBool.ret HT.out
  case inr =>
    have HR := Lib.hid hr
    clear hr
    have hs4 : f4.size ≤ 140737488351232 := by simp only [Dat.bulk, bulkAll] at hbk; omega
    have hq5 : (Dat.l L5).bulk ≤ 1099511627776 := by simp only [Dat.bulk, bulkAll] at hbk ⊢; omega
    have hb5 : (Dat.l L5).bulk ≤ 1048576 := by simp only [Dat.bulk, bulkAll] at hbk ⊢; omega
    have hn5 : n5 ≤ 1048576 := by have h1 := hc5.out; have h2 := hb5; simp only [Dat.bulk] at h2; omega
    have hN5 : n5 ≤ 1099511627776 := by omega
    have hk5 : (cntAll L5 : Int) ≤ 4194304 := by have h1 := cnt_few (K := 2) (B := 1048576) (t := tyWire) (by decide) ht5 hb5; omega
    obtain ⟨Z, hZ⟩ : ∃ Z, encM f0 f1 f2 f3 f4 L5 f6_0 f6_1 f7 f8_0 f8_1 f8_2 = Z := ⟨_, rfl⟩
    have HZL : Hid (Z.length ≤ 1048577) := Lib.hid (by rw [← hZ]; exact encM_len f0 f1 f2 f3 f4 L5 f6_0 f6_1 f7 f8_0 f8_1 f8_2)
    have CSP : Hid (∀ (A5 : Option Addr) (c5 : Nat) (w : World), Lies w (.l L5) [.slice A5 n5 c5] → Calls Try.prog 27 #[.agg #[.int .i64 f0, .int .i64 f1, .int .i64 f2, .int .i64 f3, .string f4, .slice A5 n5 c5, .int .i64 f6_0, .int .i64 f6_1, .int .i64 f7, .int .i64 f8_0, .int .i64 f8_1, .int .i64 f8_2]] w (Fresh .u8 5 Z w)) := Lib.hid (fun A5 c5 w h5 => by rw [← hZ]; exact specEnc f0 f1 f2 f3 f4 L5 A5 n5 c5 f6_0 f6_1 f7 f8_0 f8_1 f8_2 w h5 ht5 hN5 hs4)
    have CIM : Hid (∀ (A5 : Option Addr) (c5 : Nat) (w : World), Lies w (.l L5) [.slice A5 n5 c5] → Calls Try.prog 12 #[.agg #[.int .i64 f0, .int .i64 f1, .int .i64 f2, .int .i64 f3, .string f4, .slice A5 n5 c5, .int .i64 f6_0, .int .i64 f6_1, .int .i64 f7, .int .i64 f8_0, .int .i64 f8_1, .int .i64 f8_2]] w (Fresh .u8 5 Z w)) := Lib.hid (fun A5 c5 w h5 => by rw [← hZ]; exact implEnc f0 f1 f2 f3 f4 L5 A5 n5 c5 f6_0 f6_1 f7 f8_0 f8_1 f8_2 w h5 ht5 hN5)
    clear hZ
    go_enter Try.func7, Try.ntmps7
    obtain ⟨za0, za1, za2, za3, za4, za5, za6, za7, za8, za9, za10, za11⟩ := Ba.out.c12
    go_wp2_with fail
    refine (szMessage f0 f1 f2 f3 f4 L5 A5 n5 c5 f6_0 f6_1 f7 f8_0 f8_1 f8_2 1048576 _ (by omega) (by omega) hf4 (Z5.out.below HT.out) ht5 hm5).mono ?_
    rintro e w1 ⟨rfl, hb⟩
    rw [HR.out]
    clear za0 za1 za2 za3 za4 za5 za6 za7 za8 za9 za10 za11
    replace Ba : Hid (Box (W.heap.size) [.int .i64 f0, .int .i64 f1, .int .i64 f2, .int .i64 f3, .string f4, .slice A5 n5 c5, .int .i64 f6_0, .int .i64 f6_1, .int .i64 f7, .int .i64 f8_0, .int .i64 f8_1, .int .i64 f8_2] w1) := Lib.hid (Ba.out.below hb)
    replace HT : Hid (Below W.heap.size W w1) := Lib.hid (HT.out.trans (hb.mono HT.out.size))
    have hsw1 : W.heap.size + 1 ≤ w1.heap.size := (by have h1 := hb.size; (try simp only [World.size_alloc] at h1); exact h1)
    clear hb
    obtain ⟨za0, za1, za2, za3, za4, za5, za6, za7, za8, za9, za10, za11⟩ := Ba.out.c12
    go_wp2_with fail
    refine (toMessage f0 f1 f2 f3 f4 L5 A5 n5 c5 f6_0 f6_1 f7 f8_0 f8_1 f8_2 _ (Z5.out.below HT.out) ht5 hq5).mono ?_
    rintro e w2 ⟨tA, tc, rfl, hO, hb⟩
    clear za0 za1 za2 za3 za4 za5 za6 za7 za8 za9 za10 za11
    replace Ba : Hid (Box (W.heap.size) [.int .i64 f0, .int .i64 f1, .int .i64 f2, .int .i64 f3, .string f4, .slice A5 n5 c5, .int .i64 f6_0, .int .i64 f6_1, .int .i64 f7, .int .i64 f8_0, .int .i64 f8_1, .int .i64 f8_2] w2) := Lib.hid (Ba.out.below hb)
    replace HT : Hid (Below W.heap.size W w2) := Lib.hid (HT.out.trans (hb.mono HT.out.size))
    have hsw2 : w1.heap.size ≤ w2.heap.size := (by have h1 := hb.size; (try simp only [World.size_alloc] at h1); exact h1)
    have Ht : Hid (Owns w2 (.l L5) [.slice tA n5 tc] (rng (w1.heap.size) (w2.heap.size))) := Lib.hid (by have h1 := hO; (try simp only [World.size_alloc] at h1); exact h1)
    clear hO hb
    go_wp2_with fail
    refine (CSP.out tA tc _ Ht.out.lies).mono ?_
    rintro e w3 ⟨wA, wn, wc, rfl, hO, hb⟩
    replace Ht : Hid (Owns w3 (.l L5) [.slice tA n5 tc] (rng (w1.heap.size) (w2.heap.size))) := Lib.hid (Ht.out.below hb)
    replace Ba : Hid (Box (W.heap.size) [.int .i64 f0, .int .i64 f1, .int .i64 f2, .int .i64 f3, .string f4, .slice A5 n5 c5, .int .i64 f6_0, .int .i64 f6_1, .int .i64 f7, .int .i64 f8_0, .int .i64 f8_1, .int .i64 f8_2] w3) := Lib.hid (Ba.out.below hb)
    replace HT : Hid (Below W.heap.size W w3) := Lib.hid (HT.out.trans (hb.mono HT.out.size))
    have hsw3 : w2.heap.size ≤ w3.heap.size := (by have h1 := hb.size; (try simp only [World.size_alloc] at h1); exact h1)
    have Yw : Hid (Own .u8 5 (w2.heap.size) (w3.heap.size) w3 wA wn wc Z) := Lib.hid (by have h1 := hO; (try simp only [World.size_alloc] at h1); exact h1)
    have hlw : wn ≤ 1048577 := by have h1 := Yw.out.1; have h2 := HZL.out; omega
    clear hO hb
    clear Ht
    obtain ⟨za0, za1, za2, za3, za4, za5, za6, za7, za8, za9, za10, za11⟩ := Ba.out.c12
    go_wp2_with fail
    refine (toMessage f0 f1 f2 f3 f4 L5 A5 n5 c5 f6_0 f6_1 f7 f8_0 f8_1 f8_2 _ (Z5.out.below HT.out) ht5 hq5).mono ?_
    rintro e w4 ⟨xA, xc, rfl, hO, hb⟩
    clear za0 za1 za2 za3 za4 za5 za6 za7 za8 za9 za10 za11
    replace Yw : Hid (Own .u8 5 (w2.heap.size) (w3.heap.size) w4 wA wn wc Z) := Lib.hid (Yw.out.below hb)
    replace Ba : Hid (Box (W.heap.size) [.int .i64 f0, .int .i64 f1, .int .i64 f2, .int .i64 f3, .string f4, .slice A5 n5 c5, .int .i64 f6_0, .int .i64 f6_1, .int .i64 f7, .int .i64 f8_0, .int .i64 f8_1, .int .i64 f8_2] w4) := Lib.hid (Ba.out.below hb)
    replace HT : Hid (Below W.heap.size W w4) := Lib.hid (HT.out.trans (hb.mono HT.out.size))
    have hsw4 : w3.heap.size ≤ w4.heap.size := (by have h1 := hb.size; (try simp only [World.size_alloc] at h1); exact h1)
    have Hx : Hid (Owns w4 (.l L5) [.slice xA n5 xc] (rng (w3.heap.size) (w4.heap.size))) := Lib.hid (by have h1 := hO; (try simp only [World.size_alloc] at h1); exact h1)
    clear hO hb
    have hb : Below w4.heap.size w4 (w4.alloc (.cells #[.int .i64 f0, .int .i64 f1, .int .i64 f2, .int .i64 f3, .string f4, .slice xA n5 xc, .int .i64 f6_0, .int .i64 f6_1, .int .i64 f7, .int .i64 f8_0, .int .i64 f8_1, .int .i64 f8_2] 30)) := (Below.refl _ _).alloc (Nat.le_refl _) _
    replace Hx : Hid (Owns (w4.alloc (.cells #[.int .i64 f0, .int .i64 f1, .int .i64 f2, .int .i64 f3, .string f4, .slice xA n5 xc, .int .i64 f6_0, .int .i64 f6_1, .int .i64 f7, .int .i64 f8_0, .int .i64 f8_1, .int .i64 f8_2] 30)) (.l L5) [.slice xA n5 xc] (rng (w3.heap.size) (w4.heap.size))) := Lib.hid (Hx.out.below hb)
    replace Yw : Hid (Own .u8 5 (w2.heap.size) (w3.heap.size) (w4.alloc (.cells #[.int .i64 f0, .int .i64 f1, .int .i64 f2, .int .i64 f3, .string f4, .slice xA n5 xc, .int .i64 f6_0, .int .i64 f6_1, .int .i64 f7, .int .i64 f8_0, .int .i64 f8_1, .int .i64 f8_2] 30)) wA wn wc Z) := Lib.hid (Yw.out.below hb)
    replace Ba : Hid (Box (W.heap.size) [.int .i64 f0, .int .i64 f1, .int .i64 f2, .int .i64 f3, .string f4, .slice A5 n5 c5, .int .i64 f6_0, .int .i64 f6_1, .int .i64 f7, .int .i64 f8_0, .int .i64 f8_1, .int .i64 f8_2] (w4.alloc (.cells #[.int .i64 f0, .int .i64 f1, .int .i64 f2, .int .i64 f3, .string f4, .slice xA n5 xc, .int .i64 f6_0, .int .i64 f6_1, .int .i64 f7, .int .i64 f8_0, .int .i64 f8_1, .int .i64 f8_2] 30))) := Lib.hid (Ba.out.below hb)
    replace HT : Hid (Below W.heap.size W (w4.alloc (.cells #[.int .i64 f0, .int .i64 f1, .int .i64 f2, .int .i64 f3, .string f4, .slice xA n5 xc, .int .i64 f6_0, .int .i64 f6_1, .int .i64 f7, .int .i64 f8_0, .int .i64 f8_1, .int .i64 f8_2] 30))) := Lib.hid (HT.out.trans (hb.mono HT.out.size))
    clear hb
    have Bx : Hid (Box (w4.heap.size) [.int .i64 f0, .int .i64 f1, .int .i64 f2, .int .i64 f3, .string f4, .slice xA n5 xc, .int .i64 f6_0, .int .i64 f6_1, .int .i64 f7, .int .i64 f8_0, .int .i64 f8_1, .int .i64 f8_2] (w4.alloc (.cells #[.int .i64 f0, .int .i64 f1, .int .i64 f2, .int .i64 f3, .string f4, .slice xA n5 xc, .int .i64 f6_0, .int .i64 f6_1, .int .i64 f7, .int .i64 f8_0, .int .i64 f8_1, .int .i64 f8_2] 30))) := Lib.hid (by have h1 := Box.new w4 #[.int .i64 f0, .int .i64 f1, .int .i64 f2, .int .i64 f3, .string f4, .slice xA n5 xc, .int .i64 f6_0, .int .i64 f6_1, .int .i64 f7, .int .i64 f8_0, .int .i64 f8_1, .int .i64 f8_2] 30; (try simp only [World.size_alloc] at h1); exact h1)
    obtain ⟨zx0, zx1, zx2, zx3, zx4, zx5, zx6, zx7, zx8, zx9, zx10, zx11⟩ := Bx.out.c12
    go_wp2_with fail
    refine (CIM.out xA xc _ Hx.out.lies).mono ?_
    rintro e w5 ⟨gA, gn, gc, rfl, hO, hb⟩
    clear zx0 zx1 zx2 zx3 zx4 zx5 zx6 zx7 zx8 zx9 zx10 zx11
    replace Hx : Hid (Owns w5 (.l L5) [.slice xA n5 xc] (rng (w3.heap.size) (w4.heap.size))) := Lib.hid (Hx.out.below hb)
    replace Yw : Hid (Own .u8 5 (w2.heap.size) (w3.heap.size) w5 wA wn wc Z) := Lib.hid (Yw.out.below hb)
    replace Ba : Hid (Box (W.heap.size) [.int .i64 f0, .int .i64 f1, .int .i64 f2, .int .i64 f3, .string f4, .slice A5 n5 c5, .int .i64 f6_0, .int .i64 f6_1, .int .i64 f7, .int .i64 f8_0, .int .i64 f8_1, .int .i64 f8_2] w5) := Lib.hid (Ba.out.below hb)
    replace Bx : Hid (Box (w4.heap.size) [.int .i64 f0, .int .i64 f1, .int .i64 f2, .int .i64 f3, .string f4, .slice xA n5 xc, .int .i64 f6_0, .int .i64 f6_1, .int .i64 f7, .int .i64 f8_0, .int .i64 f8_1, .int .i64 f8_2] w5) := Lib.hid (Bx.out.below hb)
    replace HT : Hid (Below W.heap.size W w5) := Lib.hid (HT.out.trans (hb.mono HT.out.size))
    have hsw5 : w4.heap.size + 1 ≤ w5.heap.size := (by have h1 := hb.size; (try simp only [World.size_alloc] at h1); exact h1)
    have Yg : Hid (Own .u8 5 (w4.heap.size + 1) (w5.heap.size) w5 gA gn gc Z) := Lib.hid (by have h1 := hO; (try simp only [World.size_alloc] at h1); exact h1)
    have hlg : gn ≤ 1048577 := by have h1 := Yg.out.1; have h2 := HZL.out; omega
    clear hO hb
    go_wp2_with fail
    refine (eqB gA wA gn wn gc wc _ _ _ Yg.out.rz Yw.out.rz rfl (by omega)).mono ?_
    rintro e w6 ⟨rfl, hb⟩
    replace Hx : Hid (Owns w6 (.l L5) [.slice xA n5 xc] (rng (w3.heap.size) (w4.heap.size))) := Lib.hid (Hx.out.below hb)
    replace Yw : Hid (Own .u8 5 (w2.heap.size) (w3.heap.size) w6 wA wn wc Z) := Lib.hid (Yw.out.below hb)
    replace Yg : Hid (Own .u8 5 (w4.heap.size + 1) (w5.heap.size) w6 gA gn gc Z) := Lib.hid (Yg.out.below hb)
    replace Ba : Hid (Box (W.heap.size) [.int .i64 f0, .int .i64 f1, .int .i64 f2, .int .i64 f3, .string f4, .slice A5 n5 c5, .int .i64 f6_0, .int .i64 f6_1, .int .i64 f7, .int .i64 f8_0, .int .i64 f8_1, .int .i64 f8_2] w6) := Lib.hid (Ba.out.below hb)
    replace Bx : Hid (Box (w4.heap.size) [.int .i64 f0, .int .i64 f1, .int .i64 f2, .int .i64 f3, .string f4, .slice xA n5 xc, .int .i64 f6_0, .int .i64 f6_1, .int .i64 f7, .int .i64 f8_0, .int .i64 f8_1, .int .i64 f8_2] w6) := Lib.hid (Bx.out.below hb)
    replace HT : Hid (Below W.heap.size W w6) := Lib.hid (HT.out.trans (hb.mono HT.out.size))
    have hsw6 : w5.heap.size ≤ w6.heap.size := (by have h1 := hb.size; (try simp only [World.size_alloc] at h1); exact h1)
    clear hb
    obtain ⟨zx0, zx1, zx2, zx3, zx4, zx5, zx6, zx7, zx8, zx9, zx10, zx11⟩ := Bx.out.c12
    obtain ⟨za0, za1, za2, za3, za4, za5, za6, za7, za8, za9, za10, za11⟩ := Ba.out.c12
    go_wp2_with fail
    clear zx0 zx1 zx2 zx3 zx4 zx5 zx6 zx7 zx8 zx9 zx10 zx11
    clear za0 za1 za2 za3 za4 za5 za6 za7 za8 za9 za10 za11
    have hb : Below w6.heap.size w6 w6.drew := (Below.refl _ _).drew
    replace Hx : Hid (Owns w6.drew (.l L5) [.slice xA n5 xc] (rng (w3.heap.size) (w4.heap.size))) := Lib.hid (Hx.out.below hb)
    replace Yw : Hid (Own .u8 5 (w2.heap.size) (w3.heap.size) w6.drew wA wn wc Z) := Lib.hid (Yw.out.below hb)
    replace Yg : Hid (Own .u8 5 (w4.heap.size + 1) (w5.heap.size) w6.drew gA gn gc Z) := Lib.hid (Yg.out.below hb)
    replace Ba : Hid (Box (W.heap.size) [.int .i64 f0, .int .i64 f1, .int .i64 f2, .int .i64 f3, .string f4, .slice A5 n5 c5, .int .i64 f6_0, .int .i64 f6_1, .int .i64 f7, .int .i64 f8_0, .int .i64 f8_1, .int .i64 f8_2] w6.drew) := Lib.hid (Ba.out.below hb)
    replace Bx : Hid (Box (w4.heap.size) [.int .i64 f0, .int .i64 f1, .int .i64 f2, .int .i64 f3, .string f4, .slice xA n5 xc, .int .i64 f6_0, .int .i64 f6_1, .int .i64 f7, .int .i64 f8_0, .int .i64 f8_1, .int .i64 f8_2] w6.drew) := Lib.hid (Bx.out.below hb)
    replace HT : Hid (Below W.heap.size W w6.drew) := Lib.hid (HT.out.trans (hb.mono HT.out.size))
    clear hb
    go_region_held3 (fun w' => (w'.cell? ⟨w4.heap.size, 0, none⟩ = some (.int .i64 f0) ∧ w'.cell? ⟨w4.heap.size, 1, none⟩ = some (.int .i64 f1) ∧ w'.cell? ⟨w4.heap.size, 2, none⟩ = some (.int .i64 f2) ∧ w'.cell? ⟨w4.heap.size, 3, none⟩ = some (.int .i64 f3) ∧ w'.cell? ⟨w4.heap.size, 4, none⟩ = some (.string f4) ∧ w'.cell? ⟨w4.heap.size, 5, none⟩ = some (.slice xA n5 xc) ∧ w'.cell? ⟨w4.heap.size, 6, none⟩ = some (.int .i64 f6_0) ∧ w'.cell? ⟨w4.heap.size, 7, none⟩ = some (.int .i64 f6_1) ∧ w'.cell? ⟨w4.heap.size, 8, none⟩ = some (.int .i64 f7) ∧ w'.cell? ⟨w4.heap.size, 9, none⟩ = some (.int .i64 f8_0) ∧ w'.cell? ⟨w4.heap.size, 10, none⟩ = some (.int .i64 f8_1) ∧ w'.cell? ⟨w4.heap.size, 11, none⟩ = some (.int .i64 f8_2)) ∧ (w'.cell? ⟨W.heap.size, 0, none⟩ = some (.int .i64 f0) ∧ w'.cell? ⟨W.heap.size, 1, none⟩ = some (.int .i64 f1) ∧ w'.cell? ⟨W.heap.size, 2, none⟩ = some (.int .i64 f2) ∧ w'.cell? ⟨W.heap.size, 3, none⟩ = some (.int .i64 f3) ∧ w'.cell? ⟨W.heap.size, 4, none⟩ = some (.string f4) ∧ w'.cell? ⟨W.heap.size, 5, none⟩ = some (.slice A5 n5 c5) ∧ w'.cell? ⟨W.heap.size, 6, none⟩ = some (.int .i64 f6_0) ∧ w'.cell? ⟨W.heap.size, 7, none⟩ = some (.int .i64 f6_1) ∧ w'.cell? ⟨W.heap.size, 8, none⟩ = some (.int .i64 f7) ∧ w'.cell? ⟨W.heap.size, 9, none⟩ = some (.int .i64 f8_0) ∧ w'.cell? ⟨W.heap.size, 10, none⟩ = some (.int .i64 f8_1) ∧ w'.cell? ⟨W.heap.size, 11, none⟩ = some (.int .i64 f8_2)))
      (first | with_reducible exact ⟨Bx.out.c12, Ba.out.c12⟩ | go_keep)
      (first
      | (go_at_call 23; (with_reducible refine (toMessage f0 f1 f2 f3 f4 L5 A5 n5 c5 f6_0 f6_1 f7 f8_0 f8_1 f8_2 _ (Z5.out.below HT.out) ht5 hq5).mono ?_); rintro e u5 ⟨uA, uc, rfl, hO, hb⟩; replace Hx : Hid (Owns u5 (.l L5) [.slice xA n5 xc] (rng (w3.heap.size) (w4.heap.size))) := Lib.hid (Hx.out.below hb); replace Yw : Hid (Own .u8 5 (w2.heap.size) (w3.heap.size) u5 wA wn wc Z) := Lib.hid (Yw.out.below hb); replace Yg : Hid (Own .u8 5 (w4.heap.size + 1) (w5.heap.size) u5 gA gn gc Z) := Lib.hid (Yg.out.below hb); replace Ba : Hid (Box (W.heap.size) [.int .i64 f0, .int .i64 f1, .int .i64 f2, .int .i64 f3, .string f4, .slice A5 n5 c5, .int .i64 f6_0, .int .i64 f6_1, .int .i64 f7, .int .i64 f8_0, .int .i64 f8_1, .int .i64 f8_2] u5) := Lib.hid (Ba.out.below hb); replace Bx : Hid (Box (w4.heap.size) [.int .i64 f0, .int .i64 f1, .int .i64 f2, .int .i64 f3, .string f4, .slice xA n5 xc, .int .i64 f6_0, .int .i64 f6_1, .int .i64 f7, .int .i64 f8_0, .int .i64 f8_1, .int .i64 f8_2] u5) := Lib.hid (Bx.out.below hb); replace HT : Hid (Below W.heap.size W u5) := Lib.hid (HT.out.trans (hb.mono HT.out.size)); have hsu5 : w6.heap.size ≤ u5.heap.size := (by have h1 := hb.size; (try simp only [World.size_alloc, World.size_drew] at h1); exact h1); have Hu : Hid (Owns u5 (.l L5) [.slice uA n5 uc] (rng (w6.heap.size) (u5.heap.size))) := Lib.hid (by have h1 := hO; (try simp only [World.size_alloc, World.size_drew] at h1); exact h1); clear hO hb)
      | (go_at_call 24; (with_reducible refine (eqMessage f0 f1 f2 f3 f4 L5 xA n5 xc f6_0 f6_1 f7 f8_0 f8_1 f8_2 uA uc _ Hx.out.lies Hu.out.lies ht5 hm5).mono ?_); rintro e u6 ⟨rfl, hb⟩; replace Hx : Hid (Owns u6 (.l L5) [.slice xA n5 xc] (rng (w3.heap.size) (w4.heap.size))) := Lib.hid (Hx.out.below hb); replace Hu : Hid (Owns u6 (.l L5) [.slice uA n5 uc] (rng (w6.heap.size) (u5.heap.size))) := Lib.hid (Hu.out.below hb); replace Yw : Hid (Own .u8 5 (w2.heap.size) (w3.heap.size) u6 wA wn wc Z) := Lib.hid (Yw.out.below hb); replace Yg : Hid (Own .u8 5 (w4.heap.size + 1) (w5.heap.size) u6 gA gn gc Z) := Lib.hid (Yg.out.below hb); replace Ba : Hid (Box (W.heap.size) [.int .i64 f0, .int .i64 f1, .int .i64 f2, .int .i64 f3, .string f4, .slice A5 n5 c5, .int .i64 f6_0, .int .i64 f6_1, .int .i64 f7, .int .i64 f8_0, .int .i64 f8_1, .int .i64 f8_2] u6) := Lib.hid (Ba.out.below hb); replace Bx : Hid (Box (w4.heap.size) [.int .i64 f0, .int .i64 f1, .int .i64 f2, .int .i64 f3, .string f4, .slice xA n5 xc, .int .i64 f6_0, .int .i64 f6_1, .int .i64 f7, .int .i64 f8_0, .int .i64 f8_1, .int .i64 f8_2] u6) := Lib.hid (Bx.out.below hb); replace HT : Hid (Below W.heap.size W u6) := Lib.hid (HT.out.trans (hb.mono HT.out.size)); have hsu6 : u5.heap.size ≤ u6.heap.size := hb.size; clear hb))
    all_goals (
      clear Hu
      obtain ⟨zx0, zx1, zx2, zx3, zx4, zx5, zx6, zx7, zx8, zx9, zx10, zx11⟩ := Bx.out.c12
      go_wp2_with fail
      refine (markMessage f0 f1 f2 f3 f4 L5 xA n5 xc f6_0 f6_1 f7 f8_0 f8_1 f8_2 1 (rng (w3.heap.size) (w4.heap.size)) _ Hx.out ht5 (by omega) (by omega) hN5).mono ?_
      rintro e w17 ⟨rfl, hO, hb⟩
      clear zx0 zx1 zx2 zx3 zx4 zx5 zx6 zx7 zx8 zx9 zx10 zx11
      replace Yw : Hid (Own .u8 5 (w2.heap.size) (w3.heap.size) w17 wA wn wc Z) := Lib.hid (Yw.out.touchR hb (by omega))
      replace Yg : Hid (Own .u8 5 (w4.heap.size + 1) (w5.heap.size) w17 gA gn gc Z) := Lib.hid (Yg.out.touchR hb (by omega))
      replace Ba : Hid (Box (W.heap.size) [.int .i64 f0, .int .i64 f1, .int .i64 f2, .int .i64 f3, .string f4, .slice A5 n5 c5, .int .i64 f6_0, .int .i64 f6_1, .int .i64 f7, .int .i64 f8_0, .int .i64 f8_1, .int .i64 f8_2] w17) := Lib.hid (Ba.out.touch hb (rng_out (by omega)))
      replace Bx : Hid (Box (w4.heap.size) [.int .i64 f0, .int .i64 f1, .int .i64 f2, .int .i64 f3, .string f4, .slice xA n5 xc, .int .i64 f6_0, .int .i64 f6_1, .int .i64 f7, .int .i64 f8_0, .int .i64 f8_1, .int .i64 f8_2] w17) := Lib.hid (Bx.out.touch hb (rng_out (by omega)))
      replace HT : Hid (Below W.heap.size W w17) := Lib.hid (hb.low HT.out (by omega))
      have hsw17 : u6.heap.size ≤ w17.heap.size := hb.size
      replace Hx : Hid (Owns w17 (.l (mkAll L5 1)) [.slice xA n5 xc] (rng (w3.heap.size) (w4.heap.size))) := Lib.hid hO
      clear hO hb
      have hka : (0 : Int) ≤ 1 + cntAll L5 := by omega
      have hkb : (decide ((1 : Int) + cntAll L5 < 0)) = false := by (simp; try omega)
      go_wp2_with fail
      refine (eqB gA wA gn wn gc wc _ _ _ Yg.out.rz Yw.out.rz rfl (by omega)).mono ?_
      rintro e w18 ⟨rfl, hb⟩
      replace Hx : Hid (Owns w18 (.l (mkAll L5 1)) [.slice xA n5 xc] (rng (w3.heap.size) (w4.heap.size))) := Lib.hid (Hx.out.below hb)
      replace Yw : Hid (Own .u8 5 (w2.heap.size) (w3.heap.size) w18 wA wn wc Z) := Lib.hid (Yw.out.below hb)
      replace Yg : Hid (Own .u8 5 (w4.heap.size + 1) (w5.heap.size) w18 gA gn gc Z) := Lib.hid (Yg.out.below hb)
      replace Ba : Hid (Box (W.heap.size) [.int .i64 f0, .int .i64 f1, .int .i64 f2, .int .i64 f3, .string f4, .slice A5 n5 c5, .int .i64 f6_0, .int .i64 f6_1, .int .i64 f7, .int .i64 f8_0, .int .i64 f8_1, .int .i64 f8_2] w18) := Lib.hid (Ba.out.below hb)
      replace Bx : Hid (Box (w4.heap.size) [.int .i64 f0, .int .i64 f1, .int .i64 f2, .int .i64 f3, .string f4, .slice xA n5 xc, .int .i64 f6_0, .int .i64 f6_1, .int .i64 f7, .int .i64 f8_0, .int .i64 f8_1, .int .i64 f8_2] w18) := Lib.hid (Bx.out.below hb)
      replace HT : Hid (Below W.heap.size W w18) := Lib.hid (HT.out.trans (hb.mono HT.out.size))
      have hsw18 : w17.heap.size ≤ w18.heap.size := (by have h1 := hb.size; (try simp only [World.size_alloc] at h1); exact h1)
      clear hb
      clear Hx
      clear hka hkb
      go_wp2_with fail
      refine (markB (w4.heap.size + 1) (w5.heap.size) gA gn gc 1 Z _ Yg.out (by omega) (by omega) (by omega)).mono ?_
      rintro e w19 ⟨rfl, hO, hS⟩
      have hb := Touch.of_step hS
      clear hS
      replace Yw : Hid (Own .u8 5 (w2.heap.size) (w3.heap.size) w19 wA wn wc Z) := Lib.hid (Yw.out.touchR hb (by omega))
      replace Ba : Hid (Box (W.heap.size) [.int .i64 f0, .int .i64 f1, .int .i64 f2, .int .i64 f3, .string f4, .slice A5 n5 c5, .int .i64 f6_0, .int .i64 f6_1, .int .i64 f7, .int .i64 f8_0, .int .i64 f8_1, .int .i64 f8_2] w19) := Lib.hid (Ba.out.touch hb (rng_out (by omega)))
      replace Bx : Hid (Box (w4.heap.size) [.int .i64 f0, .int .i64 f1, .int .i64 f2, .int .i64 f3, .string f4, .slice xA n5 xc, .int .i64 f6_0, .int .i64 f6_1, .int .i64 f7, .int .i64 f8_0, .int .i64 f8_1, .int .i64 f8_2] w19) := Lib.hid (Bx.out.touch hb (rng_out (by omega)))
      replace HT : Hid (Below W.heap.size W w19) := Lib.hid (hb.low HT.out (by omega))
      have hsw19 : w18.heap.size ≤ w19.heap.size := hb.size
      replace Yg : Hid (Own .u8 5 (w4.heap.size + 1) (w5.heap.size) w19 gA gn gc (marksB 1 gn)) := Lib.hid hO
      clear hO hb
      have hka : (0 : Int) ≤ 1 + (gn : Int) := by omega
      have hkb : (decide ((1 : Int) + (gn : Int) < 0)) = false := by (simp; try omega)
      go_wp2_with fail
      refine (heldB gA gn gc 1 _ Yg.out.rz (by omega) (by omega) (by omega)).mono ?_
      rintro e w20 ⟨rfl, hb⟩
      replace Yw : Hid (Own .u8 5 (w2.heap.size) (w3.heap.size) w20 wA wn wc Z) := Lib.hid (Yw.out.below hb)
      replace Yg : Hid (Own .u8 5 (w4.heap.size + 1) (w5.heap.size) w20 gA gn gc (marksB 1 gn)) := Lib.hid (Yg.out.below hb)
      replace Ba : Hid (Box (W.heap.size) [.int .i64 f0, .int .i64 f1, .int .i64 f2, .int .i64 f3, .string f4, .slice A5 n5 c5, .int .i64 f6_0, .int .i64 f6_1, .int .i64 f7, .int .i64 f8_0, .int .i64 f8_1, .int .i64 f8_2] w20) := Lib.hid (Ba.out.below hb)
      replace Bx : Hid (Box (w4.heap.size) [.int .i64 f0, .int .i64 f1, .int .i64 f2, .int .i64 f3, .string f4, .slice xA n5 xc, .int .i64 f6_0, .int .i64 f6_1, .int .i64 f7, .int .i64 f8_0, .int .i64 f8_1, .int .i64 f8_2] w20) := Lib.hid (Bx.out.below hb)
      replace HT : Hid (Below W.heap.size W w20) := Lib.hid (HT.out.trans (hb.mono HT.out.size))
      have hsw20 : w19.heap.size ≤ w20.heap.size := (by have h1 := hb.size; (try simp only [World.size_alloc] at h1); exact h1)
      clear hb
      obtain ⟨za0, za1, za2, za3, za4, za5, za6, za7, za8, za9, za10, za11⟩ := Ba.out.c12
      go_wp2_with fail
      refine (toMessage f0 f1 f2 f3 f4 L5 A5 n5 c5 f6_0 f6_1 f7 f8_0 f8_1 f8_2 _ (Z5.out.below HT.out) ht5 hq5).mono ?_
      rintro e w21 ⟨vA, vc, rfl, hO, hb⟩
      clear za0 za1 za2 za3 za4 za5 za6 za7 za8 za9 za10 za11
      replace Yw : Hid (Own .u8 5 (w2.heap.size) (w3.heap.size) w21 wA wn wc Z) := Lib.hid (Yw.out.below hb)
      replace Yg : Hid (Own .u8 5 (w4.heap.size + 1) (w5.heap.size) w21 gA gn gc (marksB 1 gn)) := Lib.hid (Yg.out.below hb)
      replace Ba : Hid (Box (W.heap.size) [.int .i64 f0, .int .i64 f1, .int .i64 f2, .int .i64 f3, .string f4, .slice A5 n5 c5, .int .i64 f6_0, .int .i64 f6_1, .int .i64 f7, .int .i64 f8_0, .int .i64 f8_1, .int .i64 f8_2] w21) := Lib.hid (Ba.out.below hb)
      replace Bx : Hid (Box (w4.heap.size) [.int .i64 f0, .int .i64 f1, .int .i64 f2, .int .i64 f3, .string f4, .slice xA n5 xc, .int .i64 f6_0, .int .i64 f6_1, .int .i64 f7, .int .i64 f8_0, .int .i64 f8_1, .int .i64 f8_2] w21) := Lib.hid (Bx.out.below hb)
      replace HT : Hid (Below W.heap.size W w21) := Lib.hid (HT.out.trans (hb.mono HT.out.size))
      have hsw21 : w20.heap.size ≤ w21.heap.size := (by have h1 := hb.size; (try simp only [World.size_alloc] at h1); exact h1)
      have Hv : Hid (Owns w21 (.l L5) [.slice vA n5 vc] (rng (w20.heap.size) (w21.heap.size))) := Lib.hid (by have h1 := hO; (try simp only [World.size_alloc] at h1); exact h1)
      clear hO hb
      go_wp2_with fail
      refine (CIM.out vA vc _ Hv.out.lies).mono ?_
      rintro e w22 ⟨hA, hn, hc, rfl, hO, hb⟩
      replace Hv : Hid (Owns w22 (.l L5) [.slice vA n5 vc] (rng (w20.heap.size) (w21.heap.size))) := Lib.hid (Hv.out.below hb)
      replace Yw : Hid (Own .u8 5 (w2.heap.size) (w3.heap.size) w22 wA wn wc Z) := Lib.hid (Yw.out.below hb)
      replace Yg : Hid (Own .u8 5 (w4.heap.size + 1) (w5.heap.size) w22 gA gn gc (marksB 1 gn)) := Lib.hid (Yg.out.below hb)
      replace Ba : Hid (Box (W.heap.size) [.int .i64 f0, .int .i64 f1, .int .i64 f2, .int .i64 f3, .string f4, .slice A5 n5 c5, .int .i64 f6_0, .int .i64 f6_1, .int .i64 f7, .int .i64 f8_0, .int .i64 f8_1, .int .i64 f8_2] w22) := Lib.hid (Ba.out.below hb)
      replace Bx : Hid (Box (w4.heap.size) [.int .i64 f0, .int .i64 f1, .int .i64 f2, .int .i64 f3, .string f4, .slice xA n5 xc, .int .i64 f6_0, .int .i64 f6_1, .int .i64 f7, .int .i64 f8_0, .int .i64 f8_1, .int .i64 f8_2] w22) := Lib.hid (Bx.out.below hb)
      replace HT : Hid (Below W.heap.size W w22) := Lib.hid (HT.out.trans (hb.mono HT.out.size))
      have hsw22 : w21.heap.size ≤ w22.heap.size := (by have h1 := hb.size; (try simp only [World.size_alloc] at h1); exact h1)
      have Yh : Hid (Own .u8 5 (w21.heap.size) (w22.heap.size) w22 hA hn hc Z) := Lib.hid (by have h1 := hO; (try simp only [World.size_alloc] at h1); exact h1)
      have hlh : hn ≤ 1048577 := by have h1 := Yh.out.1; have h2 := HZL.out; omega
      clear hO hb
      clear Hv
      go_wp2_with fail
      refine (eqB hA wA hn wn hc wc _ _ _ Yh.out.rz Yw.out.rz rfl (by omega)).mono ?_
      rintro e w23 ⟨rfl, hb⟩
      replace Yw : Hid (Own .u8 5 (w2.heap.size) (w3.heap.size) w23 wA wn wc Z) := Lib.hid (Yw.out.below hb)
      replace Yg : Hid (Own .u8 5 (w4.heap.size + 1) (w5.heap.size) w23 gA gn gc (marksB 1 gn)) := Lib.hid (Yg.out.below hb)
      replace Yh : Hid (Own .u8 5 (w21.heap.size) (w22.heap.size) w23 hA hn hc Z) := Lib.hid (Yh.out.below hb)
      replace Ba : Hid (Box (W.heap.size) [.int .i64 f0, .int .i64 f1, .int .i64 f2, .int .i64 f3, .string f4, .slice A5 n5 c5, .int .i64 f6_0, .int .i64 f6_1, .int .i64 f7, .int .i64 f8_0, .int .i64 f8_1, .int .i64 f8_2] w23) := Lib.hid (Ba.out.below hb)
      replace Bx : Hid (Box (w4.heap.size) [.int .i64 f0, .int .i64 f1, .int .i64 f2, .int .i64 f3, .string f4, .slice xA n5 xc, .int .i64 f6_0, .int .i64 f6_1, .int .i64 f7, .int .i64 f8_0, .int .i64 f8_1, .int .i64 f8_2] w23) := Lib.hid (Bx.out.below hb)
      replace HT : Hid (Below W.heap.size W w23) := Lib.hid (HT.out.trans (hb.mono HT.out.size))
      have hsw23 : w22.heap.size ≤ w23.heap.size := (by have h1 := hb.size; (try simp only [World.size_alloc] at h1); exact h1)
      clear hb
      go_wp2_with fail
      refine (heldB gA gn gc 1 _ Yg.out.rz (by omega) (by omega) (by omega)).mono ?_
      rintro e w24 ⟨rfl, hb⟩
      replace Yw : Hid (Own .u8 5 (w2.heap.size) (w3.heap.size) w24 wA wn wc Z) := Lib.hid (Yw.out.below hb)
      replace Yg : Hid (Own .u8 5 (w4.heap.size + 1) (w5.heap.size) w24 gA gn gc (marksB 1 gn)) := Lib.hid (Yg.out.below hb)
      replace Yh : Hid (Own .u8 5 (w21.heap.size) (w22.heap.size) w24 hA hn hc Z) := Lib.hid (Yh.out.below hb)
      replace Ba : Hid (Box (W.heap.size) [.int .i64 f0, .int .i64 f1, .int .i64 f2, .int .i64 f3, .string f4, .slice A5 n5 c5, .int .i64 f6_0, .int .i64 f6_1, .int .i64 f7, .int .i64 f8_0, .int .i64 f8_1, .int .i64 f8_2] w24) := Lib.hid (Ba.out.below hb)
      replace Bx : Hid (Box (w4.heap.size) [.int .i64 f0, .int .i64 f1, .int .i64 f2, .int .i64 f3, .string f4, .slice xA n5 xc, .int .i64 f6_0, .int .i64 f6_1, .int .i64 f7, .int .i64 f8_0, .int .i64 f8_1, .int .i64 f8_2] w24) := Lib.hid (Bx.out.below hb)
      replace HT : Hid (Below W.heap.size W w24) := Lib.hid (HT.out.trans (hb.mono HT.out.size))
      have hsw24 : w23.heap.size ≤ w24.heap.size := (by have h1 := hb.size; (try simp only [World.size_alloc] at h1); exact h1)
      clear hb
      go_wp2_with fail
      go_ret
      exact GivesBool.ret HT.out)
end Go.Proofs.Ytchofnligbgigaa
