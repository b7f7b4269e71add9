/- FnLinks. -/
import Derived.Test.YtdedioghljkflaaDrawLF
import Derived.Test.YtdedioghljkflaaLkF
import Derived.Test.YtdedioghljkflaaLnkXI
import Derived.Test.YtdedioghljkflaaLnkRI
import Derived.Test.YtdedioghljkflaaEqL
import Derived.Test.YtdedioghljkflaaLawL0
import Derived.Deep.RegionHeld3
import Derived.LoopTactic
import Derived.Lib.Hide
import Derived.Deep.QuietTactic
import Derived.BigQuiet
import Derived.Deep.RegionWith
import Derived.Handy
namespace Go.Proofs.Ytdedioghljkflaa
open Go.RowKit
set_option linter.unusedVariables false
set_option linter.unusedSimpArgs false
theorem lkPutX {p f3 f5 u : Int} {L2 L4 L6 : List Dat} {K : Nat} {M2 : List Dat} {g3 v : Int} {m2 : Nat} (n2 : Nat) (C2 : Option Addr) (c2 : Nat) (C4 : Option Addr) (n4 c4 : Nat) (C6 : Option Addr) (n6 c6 : Nat) (w : World) (F : LinksF L2 f3 u M2 g3 v) (hm : M2.length = m2) (ok : LnkOk K L2 f3 L4 f5 L6) (okM : LnkOk (K + 1) M2 g3 L4 f5 L6) (hu : -9223372036854775808 ≤ u ∧ u ≤ 9223372036854775807)  (h2 : Lies w (.l L2) [.slice C2 n2 c2]) (h4 : Lies w (.l L4) [.slice C4 n4 c4]) (h6 : Lies w (.l L6) [.slice C6 n6 c6]) (hn2 : n2 ≤ 1000) (hn4 : n4 ≤ 1000) (hn6 : n6 ≤ 1000) : Calls Try.prog 15 #[.agg #[.int .i64 p, .bool true, .slice C2 n2 c2, .int .i64 f3, .slice C4 n4 c4, .int .i64 f5, .slice C6 n6 c6], .int .i64 u] w (GivesLI p true M2 m2 g3 L4 n4 f5 L6 n6 v w) := by
  have h := implPutE p true L2 C2 n2 c2 f3 L4 C4 n4 c4 f5 L6 C6 n6 c6 u w h2 ok.h2 h4 ok.h4 h6 ok.h6 (by omega) (by omega) (by omega)
  rw [F.em, F.en, F.ev, hm] at h
  exact h
theorem lkPutY {p f3 f5 u : Int} {L2 L4 L6 : List Dat} {K : Nat} {M2 : List Dat} {g3 v : Int} {m2 : Nat} (C2 : Option Addr) (c2 : Nat) (C4 : Option Addr) (n4 c4 : Nat) (C6 : Option Addr) (n6 c6 : Nat) (w : World) (F : LinksF L2 f3 u M2 g3 v) (hm : M2.length = m2) (ok : LnkOk K L2 f3 L4 f5 L6) (okM : LnkOk (K + 1) M2 g3 L4 f5 L6) (hu : -9223372036854775808 ≤ u ∧ u ≤ 9223372036854775807)  (h2 : Lies w (.l M2) [.slice C2 m2 c2]) (h4 : Lies w (.l L4) [.slice C4 n4 c4]) (h6 : Lies w (.l L6) [.slice C6 n6 c6]) (hn2 : m2 ≤ 1000) (hn4 : n4 ≤ 1000) (hn6 : n6 ≤ 1000) : Calls Try.prog 15 #[.agg #[.int .i64 p, .bool true, .slice C2 m2 c2, .int .i64 g3, .slice C4 n4 c4, .int .i64 f5, .slice C6 n6 c6], .int .i64 u] w (GivesLI p true (putL u (wrap64 (g3 + 1)) M2) (putL u (wrap64 (g3 + 1)) M2).length g3 L4 n4 f5 L6 n6 v w) := by
  have h := implPutE p true M2 C2 m2 c2 g3 L4 C4 n4 c4 f5 L6 C6 n6 c6 u w h2 okM.h2 h4 ok.h4 h6 ok.h6 (by omega) (by omega) (by omega)
  rw [F.y3, F.yv] at h
  exact h
theorem lkRelZ {p f3 f5 u : Int} {L2 L4 L6 : List Dat} {K : Nat} {M2 : List Dat} {g3 v : Int} {m2 : Nat} (C2 : Option Addr) (c2 : Nat) (C4 : Option Addr) (n4 c4 : Nat) (C6 : Option Addr) (n6 c6 : Nat) (w : World) (F : LinksF L2 f3 u M2 g3 v) (hm : M2.length = m2) (ok : LnkOk K L2 f3 L4 f5 L6) (okM : LnkOk (K + 1) M2 g3 L4 f5 L6) (hu : -9223372036854775808 ≤ u ∧ u ≤ 9223372036854775807) (y2 : Nat) (h2 : Lies w (.l (putL u (wrap64 (g3 + 1)) M2)) [.slice C2 y2 c2]) (h4 : Lies w (.l L4) [.slice C4 n4 c4]) (h6 : Lies w (.l L6) [.slice C6 n6 c6]) (hn2 : y2 ≤ 1000) (hn4 : n4 ≤ 1000) (hn6 : n6 ≤ 1000) : Calls Try.prog 18 #[.agg #[.int .i64 p, .bool true, .slice C2 y2 c2, .int .i64 g3, .slice C4 n4 c4, .int .i64 f5, .slice C6 n6 c6], .int .i64 v, .int .i64 1] w (GivesL p true M2 m2 g3 L4 n4 f5 L6 n6 w) := by
  have h := implRel p true (putL u (wrap64 (g3 + 1)) M2) C2 y2 c2 g3 L4 C4 n4 c4 f5 L6 C6 n6 c6 v 1 w h2 (putL_has hu (wrap64_bd _) okM.h2) h4 ok.h4 h6 ok.h6 (by omega) (by omega) (by omega)
  rw [F.f4, hm] at h
  exact h
theorem lkRelW {p f3 f5 u : Int} {L2 L4 L6 : List Dat} {K : Nat} {M2 : List Dat} {g3 v : Int} {m2 : Nat} (C2 : Option Addr) (c2 : Nat) (C4 : Option Addr) (n4 c4 : Nat) (C6 : Option Addr) (n6 c6 : Nat) (w : World) (F : LinksF L2 f3 u M2 g3 v) (hm : M2.length = m2) (ok : LnkOk K L2 f3 L4 f5 L6) (okM : LnkOk (K + 1) M2 g3 L4 f5 L6) (hu : -9223372036854775808 ≤ u ∧ u ≤ 9223372036854775807)  (h2 : Lies w (.l M2) [.slice C2 m2 c2]) (h4 : Lies w (.l L4) [.slice C4 n4 c4]) (h6 : Lies w (.l L6) [.slice C6 n6 c6]) (hn2 : m2 ≤ 1000) (hn4 : n4 ≤ 1000) (hn6 : n6 ≤ 1000) : Calls Try.prog 18 #[.agg #[.int .i64 p, .bool true, .slice C2 m2 c2, .int .i64 g3, .slice C4 n4 c4, .int .i64 f5, .slice C6 n6 c6], .int .i64 v, .int .i64 1] w (GivesL p true (relX v 1 M2) (relX v 1 M2).length g3 L4 n4 f5 L6 n6 w) := by
  exact implRel p true M2 C2 m2 c2 g3 L4 C4 n4 c4 f5 L6 C6 n6 c6 v 1 w h2 okM.h2 h4 ok.h4 h6 ok.h6 (by omega) (by omega) (by omega)
theorem lkFindX {p f3 f5 u : Int} {L2 L4 L6 : List Dat} {K : Nat} {M2 : List Dat} {g3 v : Int} {m2 : Nat} (C2 : Option Addr) (c2 : Nat) (C4 : Option Addr) (n4 c4 : Nat) (C6 : Option Addr) (n6 c6 : Nat) (w : World) (F : LinksF L2 f3 u M2 g3 v) (hm : M2.length = m2) (ok : LnkOk K L2 f3 L4 f5 L6) (okM : LnkOk (K + 1) M2 g3 L4 f5 L6) (hu : -9223372036854775808 ≤ u ∧ u ≤ 9223372036854775807)  (h2 : Lies w (.l M2) [.slice C2 m2 c2]) (h4 : Lies w (.l L4) [.slice C4 n4 c4]) (h6 : Lies w (.l L6) [.slice C6 n6 c6]) (hn2 : m2 ≤ 1000) (hn4 : n4 ≤ 1000) (hn6 : n6 ≤ 1000) : Calls Try.prog 16 #[.agg #[.int .i64 p, .bool true, .slice C2 m2 c2, .int .i64 g3, .slice C4 n4 c4, .int .i64 f5, .slice C6 n6 c6], .int .i64 v] w (GivesInt u w) := by
  have h := implFind p true M2 C2 m2 c2 g3 L4 C4 n4 c4 f5 L6 C6 n6 c6 v w h2 okM.h2 (by omega)
  rw [F.f1] at h
  exact h
theorem lkPosX {p f3 f5 u : Int} {L2 L4 L6 : List Dat} {K : Nat} {M2 : List Dat} {g3 v : Int} {m2 : Nat} (C2 : Option Addr) (c2 : Nat) (C4 : Option Addr) (n4 c4 : Nat) (C6 : Option Addr) (n6 c6 : Nat) (w : World) (F : LinksF L2 f3 u M2 g3 v) (hm : M2.length = m2) (ok : LnkOk K L2 f3 L4 f5 L6) (okM : LnkOk (K + 1) M2 g3 L4 f5 L6) (hu : -9223372036854775808 ≤ u ∧ u ≤ 9223372036854775807)  (h2 : Lies w (.l M2) [.slice C2 m2 c2]) (h4 : Lies w (.l L4) [.slice C4 n4 c4]) (h6 : Lies w (.l L6) [.slice C6 n6 c6]) (hn2 : m2 ≤ 1000) (hn4 : n4 ≤ 1000) (hn6 : n6 ≤ 1000) : Calls Try.prog 17 #[.agg #[.int .i64 p, .bool true, .slice C2 m2 c2, .int .i64 g3, .slice C4 n4 c4, .int .i64 f5, .slice C6 n6 c6], .int .i64 u] w (GivesInt v w) := by
  have h := implPosOf p true M2 C2 m2 c2 g3 L4 C4 n4 c4 f5 L6 C6 n6 c6 u w h2 okM.h2 (by omega)
  rw [F.f2] at h
  exact h
theorem lkFindW {p f3 f5 u : Int} {L2 L4 L6 : List Dat} {K : Nat} {M2 : List Dat} {g3 v : Int} {m2 : Nat} (C2 : Option Addr) (c2 : Nat) (C4 : Option Addr) (n4 c4 : Nat) (C6 : Option Addr) (n6 c6 : Nat) (w : World) (F : LinksF L2 f3 u M2 g3 v) (hm : M2.length = m2) (ok : LnkOk K L2 f3 L4 f5 L6) (okM : LnkOk (K + 1) M2 g3 L4 f5 L6) (hu : -9223372036854775808 ≤ u ∧ u ≤ 9223372036854775807) (r2 : Nat) (hz : look (isF 1 u) 0 0 L2 = 0) (h2 : Lies w (.l (relX v 1 M2)) [.slice C2 r2 c2]) (h4 : Lies w (.l L4) [.slice C4 n4 c4]) (h6 : Lies w (.l L6) [.slice C6 n6 c6]) (hn2 : r2 ≤ 1000) (hn4 : n4 ≤ 1000) (hn6 : n6 ≤ 1000) : Calls Try.prog 16 #[.agg #[.int .i64 p, .bool true, .slice C2 r2 c2, .int .i64 g3, .slice C4 n4 c4, .int .i64 f5, .slice C6 n6 c6], .int .i64 v] w (GivesInt (-1) w) := by
  have h := implFind p true (relX v 1 M2) C2 r2 c2 g3 L4 C4 n4 c4 f5 L6 C6 n6 c6 v w h2 (relX_has okM.h2) (by omega)
  rw [F.f5 hz] at h
  exact h
theorem lkEq {p g3 f5 : Int} {M2 L4 L6 : List Dat} {m2 n4 n6 : Nat} (A2 : Option Addr) (c2 : Nat) (A4 : Option Addr) (c4 : Nat) (A6 : Option Addr) (c6 : Nat) (B2 : Option Addr) (k2 : Nat) (B4 : Option Addr) (k4 : Nat) (B6 : Option Addr) (k6 : Nat) (w : World) (a2 : Lies w (.l M2) [.slice A2 m2 c2]) (b2 : Lies w (.l M2) [.slice B2 m2 k2]) (a4 : Lies w (.l L4) [.slice A4 n4 c4]) (b4 : Lies w (.l L4) [.slice B4 n4 k4]) (a6 : Lies w (.l L6) [.slice A6 n6 c6]) (b6 : Lies w (.l L6) [.slice B6 n6 k6]) (h2 : ∀ x ∈ M2, Has tyExport x) (h4 : ∀ x ∈ L4, Has tyQuestion x) (h6 : ∀ x ∈ L6, Has tyQuestion x) (hn2 : m2 ≤ 1000) (hn4 : n4 ≤ 1000) (hn6 : n6 ≤ 1000) :
    Calls Try.prog 19 #[.agg #[.int .i64 p, .bool true, .slice A2 m2 c2, .int .i64 g3, .slice A4 n4 c4, .int .i64 f5, .slice A6 n6 c6], .agg #[.int .i64 p, .bool true, .slice B2 m2 k2, .int .i64 g3, .slice B4 n4 k4, .int .i64 f5, .slice B6 n6 k6]] w (GivesBool true w) := by
  have h := implEqLink p true M2 A2 m2 c2 g3 L4 A4 n4 c4 f5 L6 A6 n6 c6 p true M2 B2 m2 k2 g3 L4 B4 n4 k4 f5 L6 B6 n6 k6 w a2 b2 h2 h2 (by omega) a4 b4 h4 h4 (by omega) a6 b6 h6 h6 (by omega)
  rw [eq1_yes] at h
  exact h
theorem lkFindQ {f5 u : Int} {L4 : List Dat} (A : Option Addr) (n c : Nat) (w : World) (hq : look (isF 0 (wrap64 (f5 + 1))) 1 (-1) (L4 ++ [Dat.r [.i (wrap64 (f5 + 1)), .i u]]) = u) (h : Lies w (.l (L4 ++ [Dat.r [.i (wrap64 (f5 + 1)), .i u]])) [.slice A n c]) (ht : ∀ x ∈ L4 ++ [Dat.r [.i (wrap64 (f5 + 1)), .i u]], Has tyQuestion x) (hn : n ≤ 1000) : Calls Try.prog 23 #[.slice A n c, .int .i64 (wrap64 (f5 + 1))] w (GivesInt u w) := by
  have h1 := implFindQ (L4 ++ [Dat.r [.i (wrap64 (f5 + 1)), .i u]]) A n c (wrap64 (f5 + 1)) w h ht (by omega)
  rw [hq] at h1
  exact h1
theorem lkFindN {f5 : Int} {L4 : List Dat} (A : Option Addr) (n c : Nat) (w : World) (hq : look (isF 0 (wrap64 (f5 + 1))) 1 (-1) L4 = -1) (h : Lies w (.l L4) [.slice A n c]) (ht : ∀ x ∈ L4, Has tyQuestion x) (hn : n ≤ 1000) : Calls Try.prog 23 #[.slice A n c, .int .i64 (wrap64 (f5 + 1))] w (GivesInt (-1) w) := by
  have h1 := implFindQ L4 A n c (wrap64 (f5 + 1)) w h ht (by omega)
  rw [hq] at h1
  exact h1
theorem lkDrop {f5 u : Int} {L4 : List Dat} (A : Option Addr) (n c : Nat) (w : World) (hq : dropQ (wrap64 (f5 + 1)) (L4 ++ [Dat.r [.i (wrap64 (f5 + 1)), .i u]]) = L4) (h : Lies w (.l (L4 ++ [Dat.r [.i (wrap64 (f5 + 1)), .i u]])) [.slice A n c]) (ht : ∀ x ∈ L4 ++ [Dat.r [.i (wrap64 (f5 + 1)), .i u]], Has tyQuestion x) (hn : n ≤ 1000) : Calls Try.prog 22 #[.slice A n c, .int .i64 (wrap64 (f5 + 1))] w (FreshD L4 w) := by
  have h1 := implDrop (L4 ++ [Dat.r [.i (wrap64 (f5 + 1)), .i u]]) A n c (wrap64 (f5 + 1)) w h ht (by omega)
  rw [hq] at h1
  exact h1
set_option maxRecDepth 100000 in
set_option maxHeartbeats 32000000 in
theorem law_Links (A : Option Addr) (n c : Nat) (W : World) (hC : Code W A n) : Calls Try.prog 3 #[.slice A n c] W (GivesBool true W) := by
  have HC := Lib.hid hC
  clear hC
  by_cases hn : n ≤ 1048576
  · go_enter Try.func3, Try.ntmps3
    have X := Lib.hid (St.start W)
    go_wp2_with fail
    refine (big_no A n c _ hn).mono ?_
    rintro e w' ⟨rfl, rfl⟩
    go_wp2_with fail
    refine (drawPutX A n c _ HC.out hn).mono ?_
    rintro e w1 ⟨p, f3, f5, L2, Q2, n2, qc2, L4, Q4, n4, qc4, L6, Q6, n6, qc6, u, rfl, hO, ok, hu, hb⟩
    have l2 := hO.l2
    have l4 := hO.l4
    have l6 := hO.l6
    have hn2 : n2 ≤ 40 := by have h1 := l2.count; have h2 := ok.l2; omega
    have hn4 : n4 ≤ 40 := by have h1 := l4.count; have h2 := ok.l4; omega
    have hn6 : n6 ≤ 40 := by have h1 := l6.count; have h2 := ok.l6; omega
    have HC4 := Lib.hid l4.count
    obtain ⟨M2, g3, v, hF, okM, hv⟩ := links_f ok (by omega) (show -9223372036854775808 ≤ u ∧ u ≤ 9223372036854775807 by omega)
    obtain ⟨m2, hm⟩ : ∃ m, M2.length = m := ⟨_, rfl⟩
    have hm2 : m2 ≤ 41 := by have h1 := okM.l2; omega
    obtain ⟨hq1, hq2, hq3⟩ := quest_f (e := u) ok (by omega)
    have OK := Lib.hid ok
    have OKM := Lib.hid okM
    have HF := Lib.hid hF
    have Hm := Lib.hid hm
    have HQ1 := Lib.hid hq1
    have HQ2 := Lib.hid hq2
    have HQ3 := Lib.hid hq3
    obtain ⟨y2, hy2⟩ : ∃ y, (putL u (wrap64 (g3 + 1)) M2).length = y := ⟨_, rfl⟩
    have hy2l : y2 ≤ 42 := by have h1 := putL_len u (wrap64 (g3 + 1)) M2; omega
    obtain ⟨r2, hr2⟩ : ∃ r, (relX v 1 M2).length = r := ⟨_, rfl⟩
    have hr2l : r2 ≤ 42 := by have h1 := relX_len v 1 M2; omega
    have HY2 := Lib.hid hy2
    have HR2 := Lib.hid hr2
    obtain ⟨z0, hz0⟩ : ∃ z, look (isF 1 u) 0 0 L2 = z := ⟨_, rfl⟩
    have HZ0 := Lib.hid hz0
    have HTQ : Hid (∀ x ∈ L4 ++ [Dat.r [.i (wrap64 (f5 + 1)), .i u]], Has tyQuestion x) := Lib.hid (snoc_all ok.h4 (has_x2 (wrap64_bd _) (by omega)))
    clear hO ok hF okM hm hq1 hq2 hq3 hy2 hr2 hz0 hv
    replace X := Lib.hid ((((X.out.below hb).lie l2).lie l4).lie l6)
    clear hb l2 l4 l6
    replace X := Lib.hid (X.out.push #[.int .i64 p, .bool true, .slice Q2 n2 qc2, .int .i64 f3, .slice Q4 n4 qc4, .int .i64 f5, .slice Q6 n6 qc6] 27)
    obtain ⟨a0, a1, a2, a3, a4, a5, a6⟩ := (X.out.1.box (g := w1.heap.size) (cs := [.int .i64 p, .bool true, .slice Q2 n2 qc2, .int .i64 f3, .slice Q4 n4 qc4, .int .i64 f5, .slice Q6 n6 qc6]) (by repeat (first | exact List.mem_cons_self | refine List.mem_cons_of_mem _ ?_))).c7
    go_wp2_with fail
    refine (lkPutX n2 Q2 qc2 Q4 n4 qc4 Q6 n6 qc6 _ HF.out Hm.out OK.out OKM.out (by omega) (X.out.lies (d := .l L2) (cs := [.slice Q2 n2 qc2]) (by repeat (first | exact List.mem_cons_self | refine List.mem_cons_of_mem _ ?_))) (X.out.lies (d := .l L4) (cs := [.slice Q4 n4 qc4]) (by repeat (first | exact List.mem_cons_self | refine List.mem_cons_of_mem _ ?_))) (X.out.lies (d := .l L6) (cs := [.slice Q6 n6 qc6]) (by repeat (first | exact List.mem_cons_self | refine List.mem_cons_of_mem _ ?_))) (by omega) (by omega) (by omega)).mono ?_
    rintro e w2 ⟨X2, xc2, X4, xc4, X6, xc6, rfl, hK, hb⟩
    have l2 := hK.own.l2
    have l4 := hK.own.l4
    have l6 := hK.own.l6
    clear hK
    replace X := Lib.hid ((((X.out.below hb).lie l2).lie l4).lie l6)
    clear hb l2 l4 l6
    clear a0 a1 a2 a3 a4 a5 a6
    replace X := Lib.hid (X.out.push #[.int .i64 p, .bool true, .slice X2 m2 xc2, .int .i64 g3, .slice X4 n4 xc4, .int .i64 f5, .slice X6 n6 xc6] 27)
    obtain ⟨b0, b1, b2, b3, b4, b5, b6⟩ := (X.out.1.box (g := w2.heap.size) (cs := [.int .i64 p, .bool true, .slice X2 m2 xc2, .int .i64 g3, .slice X4 n4 xc4, .int .i64 f5, .slice X6 n6 xc6]) (by repeat (first | exact List.mem_cons_self | refine List.mem_cons_of_mem _ ?_))).c7
    go_wp2_with fail
    refine (lkFindX X2 xc2 X4 n4 xc4 X6 n6 xc6 _ HF.out Hm.out OK.out OKM.out (by omega) (X.out.lies (d := .l M2) (cs := [.slice X2 m2 xc2]) (by repeat (first | exact List.mem_cons_self | refine List.mem_cons_of_mem _ ?_))) (X.out.lies (d := .l L4) (cs := [.slice X4 n4 xc4]) (by repeat (first | exact List.mem_cons_self | refine List.mem_cons_of_mem _ ?_))) (X.out.lies (d := .l L6) (cs := [.slice X6 n6 xc6]) (by repeat (first | exact List.mem_cons_self | refine List.mem_cons_of_mem _ ?_))) (by omega) (by omega) (by omega)).mono ?_
    rintro e w3 ⟨rfl, hb⟩
    replace X := Lib.hid (X.out.below hb)
    clear hb
    clear b0 b1 b2 b3 b4 b5 b6
    obtain ⟨b0, b1, b2, b3, b4, b5, b6⟩ := (X.out.1.box (g := w2.heap.size) (cs := [.int .i64 p, .bool true, .slice X2 m2 xc2, .int .i64 g3, .slice X4 n4 xc4, .int .i64 f5, .slice X6 n6 xc6]) (by repeat (first | exact List.mem_cons_self | refine List.mem_cons_of_mem _ ?_))).c7
    go_wp2_with fail
    refine (lkPosX X2 xc2 X4 n4 xc4 X6 n6 xc6 _ HF.out Hm.out OK.out OKM.out (by omega) (X.out.lies (d := .l M2) (cs := [.slice X2 m2 xc2]) (by repeat (first | exact List.mem_cons_self | refine List.mem_cons_of_mem _ ?_))) (X.out.lies (d := .l L4) (cs := [.slice X4 n4 xc4]) (by repeat (first | exact List.mem_cons_self | refine List.mem_cons_of_mem _ ?_))) (X.out.lies (d := .l L6) (cs := [.slice X6 n6 xc6]) (by repeat (first | exact List.mem_cons_self | refine List.mem_cons_of_mem _ ?_))) (by omega) (by omega) (by omega)).mono ?_
    rintro e w4 ⟨rfl, hb⟩
    replace X := Lib.hid (X.out.below hb)
    clear hb
    clear b0 b1 b2 b3 b4 b5 b6
    obtain ⟨b0, b1, b2, b3, b4, b5, b6⟩ := (X.out.1.box (g := w2.heap.size) (cs := [.int .i64 p, .bool true, .slice X2 m2 xc2, .int .i64 g3, .slice X4 n4 xc4, .int .i64 f5, .slice X6 n6 xc6]) (by repeat (first | exact List.mem_cons_self | refine List.mem_cons_of_mem _ ?_))).c7
    go_wp2_with fail
    refine (lkPutY X2 xc2 X4 n4 xc4 X6 n6 xc6 _ HF.out Hm.out OK.out OKM.out (by omega) (X.out.lies (d := .l M2) (cs := [.slice X2 m2 xc2]) (by repeat (first | exact List.mem_cons_self | refine List.mem_cons_of_mem _ ?_))) (X.out.lies (d := .l L4) (cs := [.slice X4 n4 xc4]) (by repeat (first | exact List.mem_cons_self | refine List.mem_cons_of_mem _ ?_))) (X.out.lies (d := .l L6) (cs := [.slice X6 n6 xc6]) (by repeat (first | exact List.mem_cons_self | refine List.mem_cons_of_mem _ ?_))) (by omega) (by omega) (by omega)).mono ?_
    rintro e w5 ⟨Y2, yc2, Y4, yc4, Y6, yc6, rfl, hK, hb⟩
    rw [HY2.out] at hK ⊢
    have l2 := hK.own.l2
    have l4 := hK.own.l4
    have l6 := hK.own.l6
    clear hK
    replace X := Lib.hid ((((X.out.below hb).lie l2).lie l4).lie l6)
    clear hb l2 l4 l6
    clear b0 b1 b2 b3 b4 b5 b6
    replace X := Lib.hid (X.out.push #[.int .i64 p, .bool true, .slice Y2 y2 yc2, .int .i64 g3, .slice Y4 n4 yc4, .int .i64 f5, .slice Y6 n6 yc6] 27)
    obtain ⟨b0, b1, b2, b3, b4, b5, b6⟩ := (X.out.1.box (g := w5.heap.size) (cs := [.int .i64 p, .bool true, .slice Y2 y2 yc2, .int .i64 g3, .slice Y4 n4 yc4, .int .i64 f5, .slice Y6 n6 yc6]) (by repeat (first | exact List.mem_cons_self | refine List.mem_cons_of_mem _ ?_))).c7
    go_wp2_with fail
    refine (lkRelZ Y2 yc2 Y4 n4 yc4 Y6 n6 yc6 _ HF.out Hm.out OK.out OKM.out (by omega) y2 (X.out.lies (d := .l (putL u (wrap64 (g3 + 1)) M2)) (cs := [.slice Y2 y2 yc2]) (by repeat (first | exact List.mem_cons_self | refine List.mem_cons_of_mem _ ?_))) (X.out.lies (d := .l L4) (cs := [.slice Y4 n4 yc4]) (by repeat (first | exact List.mem_cons_self | refine List.mem_cons_of_mem _ ?_))) (X.out.lies (d := .l L6) (cs := [.slice Y6 n6 yc6]) (by repeat (first | exact List.mem_cons_self | refine List.mem_cons_of_mem _ ?_))) (by omega) (by omega) (by omega)).mono ?_
    rintro e w6 ⟨Z2, zc2, Z4, zc4, Z6, zc6, rfl, hK, hb⟩
    have l2 := hK.own.l2
    have l4 := hK.own.l4
    have l6 := hK.own.l6
    clear hK
    replace X := Lib.hid ((((X.out.below hb).lie l2).lie l4).lie l6)
    clear hb l2 l4 l6
    clear b0 b1 b2 b3 b4 b5 b6
    replace X := Lib.hid (X.out.push #[.int .i64 p, .bool true, .slice Z2 m2 zc2, .int .i64 g3, .slice Z4 n4 zc4, .int .i64 f5, .slice Z6 n6 zc6] 27)
    obtain ⟨b0, b1, b2, b3, b4, b5, b6⟩ := (X.out.1.box (g := w6.heap.size) (cs := [.int .i64 p, .bool true, .slice Z2 m2 zc2, .int .i64 g3, .slice Z4 n4 zc4, .int .i64 f5, .slice Z6 n6 zc6]) (by repeat (first | exact List.mem_cons_self | refine List.mem_cons_of_mem _ ?_))).c7
    obtain ⟨d0, d1, d2, d3, d4, d5, d6⟩ := (X.out.1.box (g := w2.heap.size) (cs := [.int .i64 p, .bool true, .slice X2 m2 xc2, .int .i64 g3, .slice X4 n4 xc4, .int .i64 f5, .slice X6 n6 xc6]) (by repeat (first | exact List.mem_cons_self | refine List.mem_cons_of_mem _ ?_))).c7
    go_wp2_with fail
    refine (lkEq Z2 zc2 Z4 zc4 Z6 zc6 X2 xc2 X4 xc4 X6 xc6 _ (X.out.lies (d := .l M2) (cs := [.slice Z2 m2 zc2]) (by repeat (first | exact List.mem_cons_self | refine List.mem_cons_of_mem _ ?_))) (X.out.lies (d := .l M2) (cs := [.slice X2 m2 xc2]) (by repeat (first | exact List.mem_cons_self | refine List.mem_cons_of_mem _ ?_))) (X.out.lies (d := .l L4) (cs := [.slice Z4 n4 zc4]) (by repeat (first | exact List.mem_cons_self | refine List.mem_cons_of_mem _ ?_))) (X.out.lies (d := .l L4) (cs := [.slice X4 n4 xc4]) (by repeat (first | exact List.mem_cons_self | refine List.mem_cons_of_mem _ ?_))) (X.out.lies (d := .l L6) (cs := [.slice Z6 n6 zc6]) (by repeat (first | exact List.mem_cons_self | refine List.mem_cons_of_mem _ ?_))) (X.out.lies (d := .l L6) (cs := [.slice X6 n6 xc6]) (by repeat (first | exact List.mem_cons_self | refine List.mem_cons_of_mem _ ?_))) OKM.out.h2 OK.out.h4 OK.out.h6 (by omega) (by omega) (by omega)).mono ?_
    rintro e w7 ⟨rfl, hb⟩
    replace X := Lib.hid (X.out.below hb)
    clear hb
    clear b0 b1 b2 b3 b4 b5 b6
    clear d0 d1 d2 d3 d4 d5 d6
    obtain ⟨a0, a1, a2, a3, a4, a5, a6⟩ := (X.out.1.box (g := w1.heap.size) (cs := [.int .i64 p, .bool true, .slice Q2 n2 qc2, .int .i64 f3, .slice Q4 n4 qc4, .int .i64 f5, .slice Q6 n6 qc6]) (by repeat (first | exact List.mem_cons_self | refine List.mem_cons_of_mem _ ?_))).c7
    go_wp2_with fail
    refine (specPosOf p true L2 Q2 n2 qc2 f3 L4 Q4 n4 qc4 f5 L6 Q6 n6 qc6 u _ (X.out.lies (d := .l L2) (cs := [.slice Q2 n2 qc2]) (by repeat (first | exact List.mem_cons_self | refine List.mem_cons_of_mem _ ?_))) OK.out.h2 (by omega)).mono ?_
    rintro e w8 ⟨rfl, hb⟩
    rw [HZ0.out]
    replace X := Lib.hid (X.out.below hb)
    clear hb
    clear a0 a1 a2 a3 a4 a5 a6
    by_cases hz9 : z0 = 0
    · skip
      have HZ9 : Hid (look (isF 1 u) 0 0 L2 = 0) := Lib.hid (by rw [HZ0.out, hz9])
      have hb9 : (z0 == 0) = true := by simpa using hz9
      clear hz9
      obtain ⟨b0, b1, b2, b3, b4, b5, b6⟩ := (X.out.1.box (g := w2.heap.size) (cs := [.int .i64 p, .bool true, .slice X2 m2 xc2, .int .i64 g3, .slice X4 n4 xc4, .int .i64 f5, .slice X6 n6 xc6]) (by repeat (first | exact List.mem_cons_self | refine List.mem_cons_of_mem _ ?_))).c7
      go_wp2_with fail
      refine (lkRelW X2 xc2 X4 n4 xc4 X6 n6 xc6 _ HF.out Hm.out OK.out OKM.out (by omega) (X.out.lies (d := .l M2) (cs := [.slice X2 m2 xc2]) (by repeat (first | exact List.mem_cons_self | refine List.mem_cons_of_mem _ ?_))) (X.out.lies (d := .l L4) (cs := [.slice X4 n4 xc4]) (by repeat (first | exact List.mem_cons_self | refine List.mem_cons_of_mem _ ?_))) (X.out.lies (d := .l L6) (cs := [.slice X6 n6 xc6]) (by repeat (first | exact List.mem_cons_self | refine List.mem_cons_of_mem _ ?_))) (by omega) (by omega) (by omega)).mono ?_
      rintro e w9 ⟨R2, rc2, R4, rc4, R6, rc6, rfl, hK, hb⟩
      rw [HR2.out] at hK ⊢
      have l2 := hK.own.l2
      have l4 := hK.own.l4
      have l6 := hK.own.l6
      clear hK
      replace X := Lib.hid ((((X.out.below hb).lie l2).lie l4).lie l6)
      clear hb l2 l4 l6
      clear b0 b1 b2 b3 b4 b5 b6
      go_wp2_with fail
      refine (lkFindW R2 rc2 R4 n4 rc4 R6 n6 rc6 _ HF.out Hm.out OK.out OKM.out (by omega) r2 HZ9.out (X.out.lies (d := .l (relX v 1 M2)) (cs := [.slice R2 r2 rc2]) (by repeat (first | exact List.mem_cons_self | refine List.mem_cons_of_mem _ ?_))) (X.out.lies (d := .l L4) (cs := [.slice R4 n4 rc4]) (by repeat (first | exact List.mem_cons_self | refine List.mem_cons_of_mem _ ?_))) (X.out.lies (d := .l L6) (cs := [.slice R6 n6 rc6]) (by repeat (first | exact List.mem_cons_self | refine List.mem_cons_of_mem _ ?_))) (by omega) (by omega) (by omega)).mono ?_
      rintro e w10 ⟨rfl, hb⟩
      replace X := Lib.hid (X.out.below hb)
      clear hb
      clear hb9
      obtain ⟨a0, a1, a2, a3, a4, a5, a6⟩ := (X.out.1.box (g := w1.heap.size) (cs := [.int .i64 p, .bool true, .slice Q2 n2 qc2, .int .i64 f3, .slice Q4 n4 qc4, .int .i64 f5, .slice Q6 n6 qc6]) (by repeat (first | exact List.mem_cons_self | refine List.mem_cons_of_mem _ ?_))).c7
      go_wp2_with fail
      refine (implPutQ p true L2 Q2 n2 qc2 f3 L4 Q4 n4 qc4 f5 L6 Q6 n6 qc6 u _ (X.out.lies (d := .l L2) (cs := [.slice Q2 n2 qc2]) (by repeat (first | exact List.mem_cons_self | refine List.mem_cons_of_mem _ ?_))) OK.out.h2 (X.out.lies (d := .l L4) (cs := [.slice Q4 n4 qc4]) (by repeat (first | exact List.mem_cons_self | refine List.mem_cons_of_mem _ ?_))) OK.out.h4 (X.out.lies (d := .l L6) (cs := [.slice Q6 n6 qc6]) (by repeat (first | exact List.mem_cons_self | refine List.mem_cons_of_mem _ ?_))) OK.out.h6 (by omega) (by omega) (by omega)).mono ?_
      rintro e w11 ⟨N2, nc2, N4, nc4, N6, nc6, rfl, hK, hb⟩
      have l2 := hK.own.l2
      have l4 := hK.own.l4
      have l6 := hK.own.l6
      clear hK
      replace X := Lib.hid ((((X.out.below hb).lie l2).lie l4).lie l6)
      clear hb l2 l4 l6
      clear a0 a1 a2 a3 a4 a5 a6
      replace X := Lib.hid (X.out.push #[.int .i64 p, .bool true, .slice N2 n2 nc2, .int .i64 f3, .slice N4 (n4 + 1) nc4, .int .i64 (wrap64 (f5 + 1)), .slice N6 n6 nc6] 27)
      obtain ⟨a0, a1, a2, a3, a4, a5, a6⟩ := (X.out.1.box (g := w11.heap.size) (cs := [.int .i64 p, .bool true, .slice N2 n2 nc2, .int .i64 f3, .slice N4 (n4 + 1) nc4, .int .i64 (wrap64 (f5 + 1)), .slice N6 n6 nc6]) (by repeat (first | exact List.mem_cons_self | refine List.mem_cons_of_mem _ ?_))).c7
      go_wp2_with fail
      refine (lkDrop N4 (n4 + 1) nc4 _ HQ2.out (X.out.lies (d := .l (L4 ++ [Dat.r [.i (wrap64 (f5 + 1)), .i u]])) (cs := [.slice N4 (n4 + 1) nc4]) (by repeat (first | exact List.mem_cons_self | refine List.mem_cons_of_mem _ ?_))) HTQ.out (by omega)).mono ?_
      rintro e w12 ⟨D4, m9, dc4, rfl, hO, hb⟩
      have l9 := hO.lies
      obtain rfl : n4 = m9 := by rw [← l9.count, ← HC4.out]
      clear hO
      replace X := Lib.hid ((X.out.below hb).lie l9)
      clear hb l9
      clear a0 a1 a2 a3 a4 a5 a6
      obtain ⟨a0, a1, a2, a3, a4, a5, a6⟩ := (X.out.1.box (g := w11.heap.size) (cs := [.int .i64 p, .bool true, .slice N2 n2 nc2, .int .i64 f3, .slice N4 (n4 + 1) nc4, .int .i64 (wrap64 (f5 + 1)), .slice N6 n6 nc6]) (by repeat (first | exact List.mem_cons_self | refine List.mem_cons_of_mem _ ?_))).c7
      go_wp2_with fail
      refine (lkFindQ N4 (n4 + 1) nc4 _ HQ1.out (X.out.lies (d := .l (L4 ++ [Dat.r [.i (wrap64 (f5 + 1)), .i u]])) (cs := [.slice N4 (n4 + 1) nc4]) (by repeat (first | exact List.mem_cons_self | refine List.mem_cons_of_mem _ ?_))) HTQ.out (by omega)).mono ?_
      rintro e w13 ⟨rfl, hb⟩
      replace X := Lib.hid (X.out.below hb)
      clear hb
      clear a0 a1 a2 a3 a4 a5 a6
      go_wp2_with fail
      refine (lkFindN D4 n4 dc4 _ HQ3.out (X.out.lies (d := .l L4) (cs := [.slice D4 n4 dc4]) (by repeat (first | exact List.mem_cons_self | refine List.mem_cons_of_mem _ ?_))) OK.out.h4 (by omega)).mono ?_
      rintro e w14 ⟨rfl, hb⟩
      replace X := Lib.hid (X.out.below hb)
      clear hb
      obtain ⟨a0, a1, a2, a3, a4, a5, a6⟩ := (X.out.1.box (g := w1.heap.size) (cs := [.int .i64 p, .bool true, .slice Q2 n2 qc2, .int .i64 f3, .slice Q4 n4 qc4, .int .i64 f5, .slice Q6 n6 qc6]) (by repeat (first | exact List.mem_cons_self | refine List.mem_cons_of_mem _ ?_))).c7
      go_wp2_with fail
      go_ret
      exact GivesBool.ret X.out.low
    · have hb9 : (z0 == 0) = false := by simpa using hz9
      clear hz9
      obtain ⟨a0, a1, a2, a3, a4, a5, a6⟩ := (X.out.1.box (g := w1.heap.size) (cs := [.int .i64 p, .bool true, .slice Q2 n2 qc2, .int .i64 f3, .slice Q4 n4 qc4, .int .i64 f5, .slice Q6 n6 qc6]) (by repeat (first | exact List.mem_cons_self | refine List.mem_cons_of_mem _ ?_))).c7
      go_wp2_with fail
      refine (implPutQ p true L2 Q2 n2 qc2 f3 L4 Q4 n4 qc4 f5 L6 Q6 n6 qc6 u _ (X.out.lies (d := .l L2) (cs := [.slice Q2 n2 qc2]) (by repeat (first | exact List.mem_cons_self | refine List.mem_cons_of_mem _ ?_))) OK.out.h2 (X.out.lies (d := .l L4) (cs := [.slice Q4 n4 qc4]) (by repeat (first | exact List.mem_cons_self | refine List.mem_cons_of_mem _ ?_))) OK.out.h4 (X.out.lies (d := .l L6) (cs := [.slice Q6 n6 qc6]) (by repeat (first | exact List.mem_cons_self | refine List.mem_cons_of_mem _ ?_))) OK.out.h6 (by omega) (by omega) (by omega)).mono ?_
      rintro e w9 ⟨N2, nc2, N4, nc4, N6, nc6, rfl, hK, hb⟩
      have l2 := hK.own.l2
      have l4 := hK.own.l4
      have l6 := hK.own.l6
      clear hK
      replace X := Lib.hid ((((X.out.below hb).lie l2).lie l4).lie l6)
      clear hb l2 l4 l6
      clear a0 a1 a2 a3 a4 a5 a6
      replace X := Lib.hid (X.out.push #[.int .i64 p, .bool true, .slice N2 n2 nc2, .int .i64 f3, .slice N4 (n4 + 1) nc4, .int .i64 (wrap64 (f5 + 1)), .slice N6 n6 nc6] 27)
      obtain ⟨a0, a1, a2, a3, a4, a5, a6⟩ := (X.out.1.box (g := w9.heap.size) (cs := [.int .i64 p, .bool true, .slice N2 n2 nc2, .int .i64 f3, .slice N4 (n4 + 1) nc4, .int .i64 (wrap64 (f5 + 1)), .slice N6 n6 nc6]) (by repeat (first | exact List.mem_cons_self | refine List.mem_cons_of_mem _ ?_))).c7
      go_wp2_with fail
      refine (lkDrop N4 (n4 + 1) nc4 _ HQ2.out (X.out.lies (d := .l (L4 ++ [Dat.r [.i (wrap64 (f5 + 1)), .i u]])) (cs := [.slice N4 (n4 + 1) nc4]) (by repeat (first | exact List.mem_cons_self | refine List.mem_cons_of_mem _ ?_))) HTQ.out (by omega)).mono ?_
      rintro e w10 ⟨D4, m9, dc4, rfl, hO, hb⟩
      have l9 := hO.lies
      obtain rfl : n4 = m9 := by rw [← l9.count, ← HC4.out]
      clear hO
      replace X := Lib.hid ((X.out.below hb).lie l9)
      clear hb l9
      clear a0 a1 a2 a3 a4 a5 a6
      obtain ⟨a0, a1, a2, a3, a4, a5, a6⟩ := (X.out.1.box (g := w9.heap.size) (cs := [.int .i64 p, .bool true, .slice N2 n2 nc2, .int .i64 f3, .slice N4 (n4 + 1) nc4, .int .i64 (wrap64 (f5 + 1)), .slice N6 n6 nc6]) (by repeat (first | exact List.mem_cons_self | refine List.mem_cons_of_mem _ ?_))).c7
      go_wp2_with fail
      refine (lkFindQ N4 (n4 + 1) nc4 _ HQ1.out (X.out.lies (d := .l (L4 ++ [Dat.r [.i (wrap64 (f5 + 1)), .i u]])) (cs := [.slice N4 (n4 + 1) nc4]) (by repeat (first | exact List.mem_cons_self | refine List.mem_cons_of_mem _ ?_))) HTQ.out (by omega)).mono ?_
      rintro e w11 ⟨rfl, hb⟩
      replace X := Lib.hid (X.out.below hb)
      clear hb
      clear a0 a1 a2 a3 a4 a5 a6
      go_wp2_with fail
      refine (lkFindN D4 n4 dc4 _ HQ3.out (X.out.lies (d := .l L4) (cs := [.slice D4 n4 dc4]) (by repeat (first | exact List.mem_cons_self | refine List.mem_cons_of_mem _ ?_))) OK.out.h4 (by omega)).mono ?_
      rintro e w12 ⟨rfl, hb⟩
      replace X := Lib.hid (X.out.below hb)
      clear hb
      obtain ⟨a0, a1, a2, a3, a4, a5, a6⟩ := (X.out.1.box (g := w1.heap.size) (cs := [.int .i64 p, .bool true, .slice Q2 n2 qc2, .int .i64 f3, .slice Q4 n4 qc4, .int .i64 f5, .slice Q6 n6 qc6]) (by repeat (first | exact List.mem_cons_self | refine List.mem_cons_of_mem _ ?_))).c7
      go_wp2_with fail
      go_ret
      exact GivesBool.ret X.out.low
  · go_enter Try.func3, Try.ntmps3
    go_wp2_with fail
    refine (big_yes A n c _ hn).mono ?_
    rintro e w' ⟨rfl, rfl⟩
    go_wp2_with fail
    go_ret
    exact GivesBool.ret (Below.refl _ _)
end Go.Proofs.Ytdedioghljkflaa
