/- The exact law of IsNumber. -/
import Derived.Test.YtiojckpopgpacaaLVals
import Derived.Test.YtiojckpopgpacaaBox
namespace Go.Proofs.Ytiojckpopgpacaa
open Go.RowKit
theorem specIsNumB (v : V) (n : Int) (b : Bool) (w : World) (h : isNum v n = b) : Calls Try.prog 31 #[.agg #[.int .i64 v.kind, .int .i64 v.n], .int .i64 n] w (GivesBool b w) := by
  subst h
  exact specIsNum v n w
theorem implIsNumB (v : V) (n : Int) (b : Bool) (w : World) (h : isNum v n = b) : Calls Try.prog 19 #[.agg #[.int .i64 v.kind, .int .i64 v.n], .int .i64 n] w (GivesBool b w) := by
  subst h
  exact implIsNum v n w
set_option maxHeartbeats 1000000 in
theorem law_NumB (v : V) (n : Int) (b : Bool) (W : World) (hv : isNum v n = b) : Calls Try.prog 8 #[.agg #[.int .i64 v.kind, .int .i64 v.n], .int .i64 n] W (GivesBool true W) := by
  have HX := Lib.hid hv
  have hH := (Held.start W).push #[.int .i64 v.kind, .int .i64 v.n] 42
  have hg : (W.heap.size, [Value.int .i64 v.kind, Value.int .i64 v.n]) ∈ [(W.heap.size, [Value.int .i64 v.kind, Value.int .i64 v.n])] := List.mem_cons_self ..
  clear hv
  have HG := Lib.hid hg
  clear hg
  rcases b with _ | _
  all_goals (
    go_enter Try.func8, Try.ntmps8
    go_wp2_with fail
    refine (toV v _).mono ?_
    rintro e w1 ⟨rfl, hb⟩
    have h1 := hH.below hb
    clear hb
    go_wp2_with fail
    refine (specIsNumB v n _ _ HX.out).mono ?_
    rintro e w2 ⟨rfl, hb⟩
    have h2 := h1.below hb
    clear hb h1
    have c0 := h2.at_ HG.out (i := 0) rfl
    have c1 := h2.at_ HG.out (i := 1) rfl
    go_wp2_with fail
    refine (toV v _).mono ?_
    rintro e w3 ⟨rfl, hb⟩
    have h3 := h2.below hb
    clear hb h2 c0 c1
    go_wp2_with fail
    refine (implIsNumB v n _ _ HX.out).mono ?_
    rintro e w4 ⟨rfl, hb⟩
    have h4 := Lib.hid (h3.below hb).1
    clear hb h3
    go_wp2_with fail
    go_ret
    exact GivesBool.ret h4.out)
theorem law_Num (v : V) (n : Int) (W : World) : Calls Try.prog 8 #[.agg #[.int .i64 v.kind, .int .i64 v.n], .int .i64 n] W (GivesBool true W) := law_NumB v n _ W rfl
end Go.Proofs.Ytiojckpopgpacaa
