/- The exact law of RegsOf. -/
import Derived.Test.YtamnalkoacpcoaaRegsI
import Derived.Test.YtamnalkoacpcoaaLIns
namespace Go.Proofs.Ytamnalkoacpcoaa
open Go.RowKit
set_option linter.unusedVariables false
theorem regs_len (x : I) : (regsOf x).length ≤ 3 := by
  have := passed_len x.c x.d
  unfold regsOf
  (repeat' split) <;> simp <;> omega
theorem BoxX.step {W w w' : World} {x : I} {lo hi : Nat} (h : BoxX W x w) (hS : Step lo hi w w') (hl : W.heap.size < lo) : BoxX W x w' := by
  refine ⟨⟨Nat.lt_of_lt_of_le h.1.1 hS.size, fun i v hv => ?_⟩, hS.below h.2 (by omega) h.2.size⟩
  exact (World.cell?_of_block (w := w) (a := ⟨W.heap.size, i, none⟩) (hS.block W.heap.size h.1.1 (Or.inl hl))).trans (h.1.2 i v hv)
set_option maxRecDepth 100000 in
set_option maxHeartbeats 4000000 in
theorem law_RegsOf (x : I) (W : World) (hs : x.name.size ≤ 9223372036854775807) : Calls Try.prog 8 #[.agg #[.int .i64 x.op, .int .i64 x.a, .int .i64 x.b, .int .i64 x.c, .int .i64 x.d, .string x.name]] W (GivesBool true W) := by
  have Xw0 : Hid (BoxX W x (W.alloc (.cells #[.int .i64 x.op, .int .i64 x.a, .int .i64 x.b, .int .i64 x.c, .int .i64 x.d, .string x.name] 35))) := Lib.hid (BoxX.mk_ W x _)
  by_cases hn : x.name.size ≤ 1048576
  · have hL := leftI_fits hn
    go_enter Try.func8, Try.ntmps8
    go_wp2_with fail
    refine (szIns x 1048576 _ (by omega) (by omega) hs).mono ?_
    rintro e w1 ⟨rfl, hb⟩
    have hsw1 := hb.size
    rw [hL]
    have Xw1 := Lib.hid (Xw0.out.below hb)
    clear Xw0
    clear hb
    have hX : W.heap.size < w1.heap.size := Xw1.out.1.1
    obtain ⟨c0, c1, c2, c3, c4, c5⟩ := Xw1.out.six
    go_wp2_with fail
    refine (toIns x _).mono ?_
    rintro e w2 ⟨rfl, hb⟩
    have hsw2 := hb.size
    clear c0 c1 c2 c3 c4 c5
    have Xw2 := Lib.hid (Xw1.out.below hb)
    clear Xw1
    clear hb
    go_wp2_with fail
    refine (specRegs x _).mono ?_
    rintro e w3 ⟨Ar, nr, cr, rfl, hO, hb⟩
    have hsw3 := hb.size
    have Xw3 := Lib.hid (Xw2.out.below hb)
    clear Xw2
    have hnr : nr ≤ 3 := by have h1 := hO.1; have h2 := regs_len x; omega
    have Hrw3 := Lib.hid hO
    clear hO hb
    obtain ⟨c0, c1, c2, c3, c4, c5⟩ := Xw3.out.six
    go_wp2_with fail
    refine (toIns x _).mono ?_
    rintro e w4 ⟨rfl, hb⟩
    have hsw4 := hb.size
    clear c0 c1 c2 c3 c4 c5
    have Xw4 := Lib.hid (Xw3.out.below hb)
    clear Xw3
    have Hrw4 := Lib.hid (Hrw3.out.below hb)
    clear Hrw3
    clear hb
    go_wp2_with fail
    refine (implRegs x _).mono ?_
    rintro e w5 ⟨Ag, ng, cg, rfl, hO, hb⟩
    have hsw5 := hb.size
    have Xw5 := Lib.hid (Xw4.out.below hb)
    clear Xw4
    have Hrw5 := Lib.hid (Hrw4.out.below hb)
    clear Hrw4
    have hng : ng ≤ 3 := by have h1 := hO.1; have h2 := regs_len x; omega
    have Hgw5 := Lib.hid hO
    clear hO hb
    go_wp2_with fail
    refine (eqI Ag Ar ng nr cg cr _ _ _ Hgw5.out.rz Hrw5.out.rz rfl (by omega)).mono ?_
    rintro e w6 ⟨rfl, hb⟩
    have hsw6 := hb.size
    have Xw6 := Lib.hid (Xw5.out.below hb)
    clear Xw5
    have Hrw6 := Lib.hid (Hrw5.out.below hb)
    clear Hrw5
    have Hgw6 := Lib.hid (Hgw5.out.below hb)
    clear Hgw5
    clear hb
    go_wp2_with fail
    refine (markI w4.heap.size w5.heap.size Ag ng cg 1 _ _ Hgw6.out (by omega) (by omega) (by omega)).mono ?_
    rintro e w7 ⟨rfl, hO, hS⟩
    have hsw7 := hS.size
    have Xw7 := Lib.hid (Xw6.out.step hS (by omega))
    clear Xw6
    have Hrw7 := Lib.hid (Hrw6.out.step hS (by omega))
    clear Hrw6
    have Hgw7 := Lib.hid hO
    clear hO hS
    clear Hgw6
    go_wp2_with fail
    refine (heldI Ag ng cg 1 _ Hgw7.out.rz (by omega) (by omega) (by omega)).mono ?_
    rintro e w8 ⟨rfl, hb⟩
    have hsw8 := hb.size
    have Xw8 := Lib.hid (Xw7.out.below hb)
    clear Xw7
    have Hrw8 := Lib.hid (Hrw7.out.below hb)
    clear Hrw7
    have Hgw8 := Lib.hid (Hgw7.out.below hb)
    clear Hgw7
    clear hb
    obtain ⟨c0, c1, c2, c3, c4, c5⟩ := Xw8.out.six
    go_wp2_with fail
    refine (toIns x _).mono ?_
    rintro e w9 ⟨rfl, hb⟩
    have hsw9 := hb.size
    clear c0 c1 c2 c3 c4 c5
    have Xw9 := Lib.hid (Xw8.out.below hb)
    clear Xw8
    have Hrw9 := Lib.hid (Hrw8.out.below hb)
    clear Hrw8
    have Hgw9 := Lib.hid (Hgw8.out.below hb)
    clear Hgw8
    clear hb
    go_wp2_with fail
    refine (implRegs x _).mono ?_
    rintro e w10 ⟨Ah, nh, ch, rfl, hO, hb⟩
    have hsw10 := hb.size
    have Xw10 := Lib.hid (Xw9.out.below hb)
    clear Xw9
    have Hrw10 := Lib.hid (Hrw9.out.below hb)
    clear Hrw9
    have Hgw10 := Lib.hid (Hgw9.out.below hb)
    clear Hgw9
    have hnh : nh ≤ 3 := by have h1 := hO.1; have h2 := regs_len x; omega
    have Hhw10 := Lib.hid hO
    clear hO hb
    go_wp2_with fail
    refine (eqI Ah Ar nh nr ch cr _ _ _ Hhw10.out.rz Hrw10.out.rz rfl (by omega)).mono ?_
    rintro e w11 ⟨rfl, hb⟩
    have hsw11 := hb.size
    have Xw11 := Lib.hid (Xw10.out.below hb)
    clear Xw10
    have Hrw11 := Lib.hid (Hrw10.out.below hb)
    clear Hrw10
    have Hgw11 := Lib.hid (Hgw10.out.below hb)
    clear Hgw10
    have Hhw11 := Lib.hid (Hhw10.out.below hb)
    clear Hhw10
    clear hb
    go_wp2_with fail
    refine (heldI Ag ng cg 1 _ Hgw11.out.rz (by omega) (by omega) (by omega)).mono ?_
    rintro e w12 ⟨rfl, hb⟩
    have hsw12 := hb.size
    have Xw12 := Lib.hid (Xw11.out.below hb)
    clear Xw11
    have Hrw12 := Lib.hid (Hrw11.out.below hb)
    clear Hrw11
    have Hgw12 := Lib.hid (Hgw11.out.below hb)
    clear Hgw11
    have Hhw12 := Lib.hid (Hhw11.out.below hb)
    clear Hhw11
    clear hb
    go_wp2_with fail
    go_ret
    exact GivesBool.ret Xw12.out.2
  · have hL := leftI_big hn
    go_enter Try.func8, Try.ntmps8
    go_wp2_with fail
    refine (szIns x 1048576 _ (by omega) (by omega) hs).mono ?_
    rintro e w1 ⟨rfl, hb⟩
    rw [hL]
    have X1 := Lib.hid (Xw0.out.below hb)
    clear hb Xw0
    go_wp2_with fail
    go_ret
    exact GivesBool.ret X1.out.2
end Go.Proofs.Ytamnalkoacpcoaa
