/- The exact law of FormatInstr. -/
import Derived.Test.YthgcodbcafpmhaaDoorLIns
import Derived.Test.YthgcodbcafpmhaaDoorFmtI
namespace Go.Proofs.YthgcodbcafpmhaaDoor
open Go.RowKit
set_option linter.unusedVariables false
set_option maxRecDepth 100000 in
set_option maxHeartbeats 2000000 in
theorem law_FormatInstrB (x : I) (r : ByteArray) (W : World) (hT : Pow10 W) (hs : x.name.size ≤ 9223372036854775807) (hv : (⟨(fmtI x).toArray⟩ : ByteArray) = r) : Calls Tryd.prog 3 #[.agg #[.int .i64 x.op, .int .i64 x.a, .int .i64 x.b, .int .i64 x.c, .int .i64 x.d, .string x.name]] W (GivesBool true W) := by
  have HV := Lib.hid hv
  have HT := Lib.hid hT
  have X0 : Hid (BoxX W x (W.alloc (.cells #[.int .i64 x.op, .int .i64 x.a, .int .i64 x.b, .int .i64 x.c, .int .i64 x.d, .string x.name] 23))) := Lib.hid (BoxX.mk_ W x _)
  clear hv hT
  by_cases hn : x.name.size ≤ 1048576
  · have hL := leftI_fits hn
    go_enter Tryd.func3, Tryd.ntmps3
    go_wp2_with fail
    refine (szIns x 1048576 _ (by omega) (by omega) hs).mono ?_
    rintro e w1 ⟨rfl, hb⟩
    rw [hL]
    have X1 := Lib.hid (X0.out.below hb)
    clear hb X0
    obtain ⟨c0, c1, c2, c3, c4, c5⟩ := X1.out.six
    go_wp2_with fail
    refine (toIns x _).mono ?_
    rintro e w2 ⟨rfl, hb⟩
    have X2 := Lib.hid (X1.out.below hb)
    clear hb X1 c0 c1 c2 c3 c4 c5
    go_wp2_with fail
    refine (specFmt x _ (by omega)).mono ?_
    rintro e w3 ⟨rfl, hb⟩
    rw [HV.out]
    have X3 := Lib.hid (X2.out.below hb)
    clear hb X2
    obtain ⟨c0, c1, c2, c3, c4, c5⟩ := X3.out.six
    go_wp2_with fail
    refine (toIns x _).mono ?_
    rintro e w4 ⟨rfl, hb⟩
    have X4 := Lib.hid (X3.out.below hb)
    clear hb X3 c0 c1 c2 c3 c4 c5
    go_wp2_with fail
    refine (implFmt x _ (HT.out.below X4.out.2)).mono ?_
    rintro e w5 ⟨rfl, hb⟩
    rw [HV.out]
    have X5 := Lib.hid (X4.out.below hb)
    clear hb X4
    go_wp2_with fail
    go_ret
    exact GivesBool.ret X5.out.2
  · have hL := leftI_big hn
    go_enter Tryd.func3, Tryd.ntmps3
    go_wp2_with fail
    refine (szIns x 1048576 _ (by omega) (by omega) hs).mono ?_
    rintro e w1 ⟨rfl, hb⟩
    rw [hL]
    have X1 := Lib.hid (X0.out.below hb)
    clear hb X0
    go_wp2_with fail
    go_ret
    exact GivesBool.ret X1.out.2
theorem law_FormatInstr (x : I) (W : World) (hT : Pow10 W) (hs : x.name.size ≤ 9223372036854775807) : Calls Tryd.prog 3 #[.agg #[.int .i64 x.op, .int .i64 x.a, .int .i64 x.b, .int .i64 x.c, .int .i64 x.d, .string x.name]] W (GivesBool true W) := law_FormatInstrB x _ W hT hs rfl
end Go.Proofs.YthgcodbcafpmhaaDoor
