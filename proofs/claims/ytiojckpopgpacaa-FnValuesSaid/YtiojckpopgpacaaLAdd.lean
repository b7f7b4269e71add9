/- The exact law of AddInts. -/
import Derived.Test.YtiojckpopgpacaaLVals
import Derived.Test.YtiojckpopgpacaaBox
import Derived.Deep.DeepCutAuto
namespace Go.Proofs.Ytiojckpopgpacaa
open Go.RowKit
theorem specAddX (a b x : V) (w : World) (h : addV a b = x) : Calls Try.prog 23 #[.agg #[.int .i64 a.kind, .int .i64 a.n], .agg #[.int .i64 b.kind, .int .i64 b.n]] w (GivesV x w) := by
  subst h
  exact specAddV a b w
theorem implAddX (a b x : V) (w : World) (h : addV a b = x) : Calls Try.prog 14 #[.agg #[.int .i64 a.kind, .int .i64 a.n], .agg #[.int .i64 b.kind, .int .i64 b.n]] w (GivesV x w) := by
  subst h
  exact implAddV a b w
def abL (W : World) (a b : V) : List (Nat × List Value) := [(W.heap.size + 1, [.int .i64 b.kind, .int .i64 b.n]), (W.heap.size, [.int .i64 a.kind, .int .i64 a.n])]
theorem abL.cells {W w : World} {a b : V} (h : Held W (abL W a b) w) : (w.cell? ⟨W.heap.size, 0, none⟩ = some (.int .i64 a.kind) ∧ w.cell? ⟨W.heap.size, 1, none⟩ = some (.int .i64 a.n)) ∧ (w.cell? ⟨W.heap.size + 1, 0, none⟩ = some (.int .i64 b.kind) ∧ w.cell? ⟨W.heap.size + 1, 1, none⟩ = some (.int .i64 b.n)) :=
  ⟨⟨h.at_ (List.mem_cons_of_mem _ (List.mem_cons_self ..)) (i := 0) rfl, h.at_ (List.mem_cons_of_mem _ (List.mem_cons_self ..)) (i := 1) rfl⟩, h.at_ (List.mem_cons_self ..) (i := 0) rfl, h.at_ (List.mem_cons_self ..) (i := 1) rfl⟩
theorem abL.cells1 {W w : World} {a b : V} {p : Nat × List Value} (h : Held W (p :: abL W a b) w) : (w.cell? ⟨W.heap.size, 0, none⟩ = some (.int .i64 a.kind) ∧ w.cell? ⟨W.heap.size, 1, none⟩ = some (.int .i64 a.n)) ∧ (w.cell? ⟨W.heap.size + 1, 0, none⟩ = some (.int .i64 b.kind) ∧ w.cell? ⟨W.heap.size + 1, 1, none⟩ = some (.int .i64 b.n)) := abL.cells (h.less fun _ hp => List.mem_cons_of_mem _ hp)
theorem abL.start (W : World) (a b : V) : Held W (abL W a b) ((W.alloc (.cells #[.int .i64 a.kind, .int .i64 a.n] 42)).alloc (.cells #[.int .i64 b.kind, .int .i64 b.n] 42)) := by
  have h := ((Held.start W).push #[.int .i64 a.kind, .int .i64 a.n] 42).push #[.int .i64 b.kind, .int .i64 b.n] 42
  rw [World.size_alloc] at h
  exact h
set_option maxHeartbeats 1000000 in
theorem law_Add (a b : V) (W : World) : Calls Try.prog 7 #[.agg #[.int .i64 a.kind, .int .i64 a.n], .agg #[.int .i64 b.kind, .int .i64 b.n]] W (GivesBool true W) := by
  obtain ⟨x, hx⟩ : ∃ x : V, addV a b = x := ⟨_, rfl⟩
  have HX := Lib.hid hx
  have hH := abL.start W a b
  clear hx
  go_enter Try.func7, Try.ntmps7
  go_upto_region 1 with fail
  go_cut [5] (fun s5 wx => ∃ g : Nat, s5 = .pointer (some ⟨g, 0, none⟩) ∧ Held W ((g, [.int .i64 x.kind, .int .i64 x.n]) :: abL W a b) wx)
  case first =>
    have HK : Kept W (abL W a b) (W.heap.size + 1 + 1) ((W.alloc (.cells #[.int .i64 a.kind, .int .i64 a.n] 42)).alloc (.cells #[.int .i64 b.kind, .int .i64 b.n] 42)) := Kept.start hH (by first | rfl | simp)
    go_region_held3 (fun w' => (w'.cell? ⟨W.heap.size, 0, none⟩ = some (.int .i64 a.kind) ∧ w'.cell? ⟨W.heap.size, 1, none⟩ = some (.int .i64 a.n)) ∧ (w'.cell? ⟨W.heap.size + 1, 0, none⟩ = some (.int .i64 b.kind) ∧ w'.cell? ⟨W.heap.size + 1, 1, none⟩ = some (.int .i64 b.n)))
      (first | exact abL.cells (And.left (by assumption : Kept W (abL W a b) (W.heap.size + 1 + 1) _)) | exact abL.cells (And.left (Kept.alloc (by assumption : Kept W (abL W a b) (W.heap.size + 1 + 1) _) _)) | exact abL.cells (And.left (Kept.drew (by assumption : Kept W (abL W a b) (W.heap.size + 1 + 1) _))) | exact abL.cells (And.left (Kept.drew (Kept.alloc (by assumption : Kept W (abL W a b) (W.heap.size + 1 + 1) _) _))) | exact abL.cells (Kept.put' (N := W.heap.size + 1 + 1) (by assumption) (by assumption) _ _))
      (first
      | (go_at_call 30; (with_reducible refine (toV a _).mono ?_); rintro e wq0 ⟨rfl, hb⟩
         have hh := Kept.and (W := W) (l := (abL W a b)) (N := W.heap.size + 1 + 1) hb ?h0
         case h0 => (first | assumption | exact Kept.alloc (by assumption) _ | exact Kept.drew (by assumption) | exact Kept.drew (Kept.alloc (by assumption) _))
         obtain ⟨hX, HH0⟩ := hh
         (first | (have FZ := Zb.mk_ (cs := #[.int .i64 0, .int .i64 0]) hb (Kept.low (W := W) (l := (abL W a b)) (N := W.heap.size + 1 + 1) ?z1); case z1 => assumption) | (have FZ := Zb.mkd (cs := #[.int .i64 0, .int .i64 0]) hb (Kept.low (W := W) (l := (abL W a b)) (N := W.heap.size + 1 + 1) ?z2); case z2 => assumption) | skip)
         clear hb hX)
      | (go_at_call 30; (with_reducible refine (toV b _).mono ?_); rintro e wq1 ⟨rfl, hb⟩
         have hh := Kept.and (W := W) (l := (abL W a b)) (N := W.heap.size + 1 + 1) hb ?h1
         case h1 => (first | assumption | exact Kept.alloc (by assumption) _ | exact Kept.drew (by assumption) | exact Kept.drew (Kept.alloc (by assumption) _))
         obtain ⟨hX, HH1⟩ := hh
         (first | (have FZ := Zb.mk_ (cs := #[.int .i64 0, .int .i64 0]) hb (Kept.low (W := W) (l := (abL W a b)) (N := W.heap.size + 1 + 1) ?z1); case z1 => assumption) | (have FZ := Zb.mkd (cs := #[.int .i64 0, .int .i64 0]) hb (Kept.low (W := W) (l := (abL W a b)) (N := W.heap.size + 1 + 1) ?z2); case z2 => assumption) | (rename Zb _ _ _ wq0 => FZ; have FZ := Zb.below FZ hb) | skip)
         clear hb hX)
      | (go_at_call 23; (with_reducible refine (specAddX a b x _ HX.out).mono ?_); rintro e wq2 ⟨rfl, hb⟩
         have hh := Kept.and (W := W) (l := (abL W a b)) (N := W.heap.size + 1 + 1) hb ?h2
         case h2 => (first | assumption | exact Kept.alloc (by assumption) _ | exact Kept.drew (by assumption) | exact Kept.drew (Kept.alloc (by assumption) _))
         obtain ⟨hX, HH2⟩ := hh
         (first | (have FZ := Zb.mk_ (cs := #[.int .i64 0, .int .i64 0]) hb (Kept.low (W := W) (l := (abL W a b)) (N := W.heap.size + 1 + 1) ?z1); case z1 => assumption) | (have FZ := Zb.mkd (cs := #[.int .i64 0, .int .i64 0]) hb (Kept.low (W := W) (l := (abL W a b)) (N := W.heap.size + 1 + 1) ?z2); case z2 => assumption) | (rename Zb _ _ _ wq1 => FZ; have FZ := Zb.below FZ hb) | skip)
         clear hb hX
         (first | (rename Zb _ _ _ wq2 => FQ; (try rw [World.size_alloc] at FQ); (try rw [World.size_alloc] at FQ); (try rw [World.size_alloc] at FQ); obtain ⟨o1, o2, o3, o4⟩ := Zb.two FQ) | skip)))
    all_goals (
      go_wp2_with fail
      go_meet
      (first
        | (exact ⟨_, rfl, Kept.push HH2 #[.int .i64 x.kind, .int .i64 x.n] _⟩)
        | (rename Zb _ _ _ wq2 => FQ; exact ⟨_, rfl, Kept.put HH2 FQ _ _⟩)))
  case rest =>
    clear hH
    obtain ⟨g, rfl, hg⟩ := hcut
    rename World => wx
    obtain ⟨⟨c0, c1⟩, c2, c3⟩ := abL.cells1 hg
    go_upto_region 2 with fail
    go_cut [6] (fun s6 wy => ∃ g' : Nat, s6 = .pointer (some ⟨g', 0, none⟩) ∧ Held W ((g', [.int .i64 x.kind, .int .i64 x.n]) :: (g, [.int .i64 x.kind, .int .i64 x.n]) :: abL W a b) wy)
    case first =>
      clear c0 c1 c2 c3
      have HK : Kept W ((g, [.int .i64 x.kind, .int .i64 x.n]) :: abL W a b) (wx.heap.size) (wx) := Kept.start hg (by first | rfl | simp)
      go_region_held3 (fun w' => (w'.cell? ⟨W.heap.size, 0, none⟩ = some (.int .i64 a.kind) ∧ w'.cell? ⟨W.heap.size, 1, none⟩ = some (.int .i64 a.n)) ∧ (w'.cell? ⟨W.heap.size + 1, 0, none⟩ = some (.int .i64 b.kind) ∧ w'.cell? ⟨W.heap.size + 1, 1, none⟩ = some (.int .i64 b.n)))
        (first | exact abL.cells1 (And.left (by assumption : Kept W ((g, [.int .i64 x.kind, .int .i64 x.n]) :: abL W a b) (wx.heap.size) _)) | exact abL.cells1 (And.left (Kept.alloc (by assumption : Kept W ((g, [.int .i64 x.kind, .int .i64 x.n]) :: abL W a b) (wx.heap.size) _) _)) | exact abL.cells1 (And.left (Kept.drew (by assumption : Kept W ((g, [.int .i64 x.kind, .int .i64 x.n]) :: abL W a b) (wx.heap.size) _))) | exact abL.cells1 (And.left (Kept.drew (Kept.alloc (by assumption : Kept W ((g, [.int .i64 x.kind, .int .i64 x.n]) :: abL W a b) (wx.heap.size) _) _))) | exact abL.cells1 (Kept.put' (N := wx.heap.size) (by assumption) (by assumption) _ _))
        (first
        | (go_at_call 30; (with_reducible refine (toV a _).mono ?_); rintro e wq0 ⟨rfl, hb⟩
           have hh := Kept.and (W := W) (l := ((g, [.int .i64 x.kind, .int .i64 x.n]) :: abL W a b)) (N := wx.heap.size) hb ?h0
           case h0 => (first | assumption | exact Kept.alloc (by assumption) _ | exact Kept.drew (by assumption) | exact Kept.drew (Kept.alloc (by assumption) _))
           obtain ⟨hX, HH0⟩ := hh
           (first | (have FZ := Zb.mk_ (cs := #[.int .i64 0, .int .i64 0]) hb (Kept.low (W := W) (l := ((g, [.int .i64 x.kind, .int .i64 x.n]) :: abL W a b)) (N := wx.heap.size) ?z1); case z1 => assumption) | (have FZ := Zb.mkd (cs := #[.int .i64 0, .int .i64 0]) hb (Kept.low (W := W) (l := ((g, [.int .i64 x.kind, .int .i64 x.n]) :: abL W a b)) (N := wx.heap.size) ?z2); case z2 => assumption) | skip)
           clear hb hX)
        | (go_at_call 30; (with_reducible refine (toV b _).mono ?_); rintro e wq1 ⟨rfl, hb⟩
           have hh := Kept.and (W := W) (l := ((g, [.int .i64 x.kind, .int .i64 x.n]) :: abL W a b)) (N := wx.heap.size) hb ?h1
           case h1 => (first | assumption | exact Kept.alloc (by assumption) _ | exact Kept.drew (by assumption) | exact Kept.drew (Kept.alloc (by assumption) _))
           obtain ⟨hX, HH1⟩ := hh
           (first | (have FZ := Zb.mk_ (cs := #[.int .i64 0, .int .i64 0]) hb (Kept.low (W := W) (l := ((g, [.int .i64 x.kind, .int .i64 x.n]) :: abL W a b)) (N := wx.heap.size) ?z1); case z1 => assumption) | (have FZ := Zb.mkd (cs := #[.int .i64 0, .int .i64 0]) hb (Kept.low (W := W) (l := ((g, [.int .i64 x.kind, .int .i64 x.n]) :: abL W a b)) (N := wx.heap.size) ?z2); case z2 => assumption) | (rename Zb _ _ _ wq0 => FZ; have FZ := Zb.below FZ hb) | skip)
           clear hb hX)
        | (go_at_call 14; (with_reducible refine (implAddX a b x _ HX.out).mono ?_); rintro e wq2 ⟨rfl, hb⟩
           have hh := Kept.and (W := W) (l := ((g, [.int .i64 x.kind, .int .i64 x.n]) :: abL W a b)) (N := wx.heap.size) hb ?h2
           case h2 => (first | assumption | exact Kept.alloc (by assumption) _ | exact Kept.drew (by assumption) | exact Kept.drew (Kept.alloc (by assumption) _))
           obtain ⟨hX, HH2⟩ := hh
           (first | (have FZ := Zb.mk_ (cs := #[.int .i64 0, .int .i64 0]) hb (Kept.low (W := W) (l := ((g, [.int .i64 x.kind, .int .i64 x.n]) :: abL W a b)) (N := wx.heap.size) ?z1); case z1 => assumption) | (have FZ := Zb.mkd (cs := #[.int .i64 0, .int .i64 0]) hb (Kept.low (W := W) (l := ((g, [.int .i64 x.kind, .int .i64 x.n]) :: abL W a b)) (N := wx.heap.size) ?z2); case z2 => assumption) | (rename Zb _ _ _ wq1 => FZ; have FZ := Zb.below FZ hb) | skip)
           clear hb hX
           (first | (rename Zb _ _ _ wq2 => FQ; (try rw [World.size_alloc] at FQ); (try rw [World.size_alloc] at FQ); (try rw [World.size_alloc] at FQ); obtain ⟨o1, o2, o3, o4⟩ := Zb.two FQ) | skip)))
      all_goals (
        go_wp2_with fail
        go_meet
        (first
          | (exact ⟨_, rfl, Kept.push HH2 #[.int .i64 x.kind, .int .i64 x.n] _⟩)
          | (rename Zb _ _ _ wq2 => FQ; exact ⟨_, rfl, Kept.put HH2 FQ _ _⟩)))
    case rest =>
      clear c0 c1 c2 c3
      obtain ⟨g', rfl, hg'⟩ := hcut
      rename World => wy
      have d0 := hg'.at_ (List.mem_cons_self ..) (i := 0) rfl
      have d1 := hg'.at_ (List.mem_cons_self ..) (i := 1) rfl
      have d2 := hg'.at_ (List.mem_cons_of_mem _ (List.mem_cons_self ..)) (i := 0) rfl
      have d3 := hg'.at_ (List.mem_cons_of_mem _ (List.mem_cons_self ..)) (i := 1) rfl
      go_wp2_with fail
      refine (eqV_yes x _).mono ?_
      rintro e w3 ⟨rfl, hb⟩
      have HB3 := Lib.hid (hg'.below hb).1
      clear hb d0 d1 d2 d3
      go_wp2_with fail
      go_ret
      exact GivesBool.ret HB3.out
end Go.Proofs.Ytiojckpopgpacaa
