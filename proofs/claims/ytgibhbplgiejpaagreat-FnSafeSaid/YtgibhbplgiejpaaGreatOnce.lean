/- Chapter 8: eachOnce: the first of equal elements, kept in a map of those that were seen. -/
import Derived.Test.YtgibhbplgiejpaaGreatChkV
import Derived.Test.YtgibhbplgiejpaaGreatData
import Derived.Test.YtgibhbplgiejpaaGreatScrI
import Derived.Maps.OwnSet
namespace Go.Proofs.YtgibhbplgiejpaaGreat
open Go.RowKit Go.Maps
set_option linter.unusedVariables false
set_option linter.unusedSimpArgs false
/-! ### Plain -/
def onceL {α : Type} [DecidableEq α] : List α → List α → List α
  | acc, [] => acc
  | acc, x :: l => onceL (if x ∈ acc then acc else acc ++ [x]) l
section
variable {α : Type} [DecidableEq α]
def memB (x : α) (l : List α) : Bool := decide (x ∈ l)
theorem memB_t {x : α} {l : List α} (h : x ∈ l) : memB x l = true := decide_eq_true h
theorem memB_f {x : α} {l : List α} (h : ¬ x ∈ l) : memB x l = false := decide_eq_false h
theorem memB_nil (x : α) : memB x [] = false := memB_f (by simp)
theorem memB_snoc (y x : α) (l : List α) (h : ¬ y = x) : memB y (l ++ [x]) = memB y l := by simp [memB, h]
theorem memB_last (x : α) (l : List α) : memB x (l ++ [x]) = true := memB_t (by simp)
theorem onceL_snoc : ∀ (acc l : List α) (x : α), onceL acc (l ++ [x]) = if x ∈ onceL acc l then onceL acc l else onceL acc l ++ [x]
  | acc, [], x => rfl
  | acc, y :: l, x => by
    rw [List.cons_append, onceL, onceL, onceL_snoc]
theorem once_mem : ∀ (l acc : List α) (y : α), y ∈ onceL acc l ↔ y ∈ acc ∨ y ∈ l
  | [], acc, y => by simp [onceL]
  | x :: l, acc, y => by
    rw [onceL, once_mem l]
    by_cases h : x ∈ acc
    · rw [if_pos h, List.mem_cons]
      constructor
      · rintro (h1 | h1)
        · exact Or.inl h1
        · exact Or.inr (Or.inr h1)
      · rintro (h1 | h1 | h1)
        · exact Or.inl h1
        · rw [h1]; exact Or.inl h
        · exact Or.inr h1
    · rw [if_neg h, List.mem_append, List.mem_singleton, List.mem_cons, or_assoc]
theorem once_len : ∀ (l acc : List α), (onceL acc l).length ≤ acc.length + l.length
  | [], acc => by simp [onceL]
  | x :: l, acc => by
    rw [onceL]
    refine Nat.le_trans (once_len l _) ?_
    split <;> simp <;> omega
theorem once_seen {L : List α} {i : Nat} {x : α} (h : L[i]? = some x) (hx : x ∈ onceL [] (L.take i)) : onceL [] (L.take (i + 1)) = onceL [] (L.take i) := by
  rw [List.take_add_one, h]
  show onceL [] (L.take i ++ [x]) = _
  rw [onceL_snoc, if_pos hx]
theorem once_new {L : List α} {i : Nat} {x : α} (h : L[i]? = some x) (hx : ¬ x ∈ onceL [] (L.take i)) : onceL [] (L.take (i + 1)) = onceL [] (L.take i) ++ [x] := by
  rw [List.take_add_one, h]
  show onceL [] (L.take i ++ [x]) = _
  rw [onceL_snoc, if_neg hx]
end
/-! ### A row of one-cell data that grows, apart from a block v -/
structure FG (E : TypeId) (lo v : Nat) (W : World) (L : List Dat) (w : World) (A : Option Addr) (n c : Nat) : Prop where
  grow : Grow E 1 lo w A n c L (fun _ => False)
  away : ∀ a, A = some a → a.block ≠ v
  low : Below W.heap.size W w
  base : W.heap.size ≤ lo
section
variable {E : TypeId} {lo v : Nat} {W w w1 w' : World} {L : List Dat} {A A' : Option Addr} {n c m c' : Nat}
theorem Grow.noB {k : Nat} {B : Nat → Prop} (h : Grow E k lo w A n c L B) (hB : ∀ b, ¬ B b) : Grow E k lo w A n c L (fun _ => False) := by
  obtain ⟨xs, h1, h2, h3, h4, h5, h6⟩ := h
  exact ⟨xs, h1, h2.mono (fun b hb => hB b hb), h3, h4, fun a e => ⟨fun h => h, (h5 a e).2⟩, fun b h => h.elim⟩
theorem Grow.blk8 {k : Nat} {B : Nat → Prop} (h : Grow E k lo w A n c L B) : ∀ a, A = some a → lo ≤ a.block ∧ a.block < w.heap.size := fun a e => by
  subst e
  have := h.own a.block (by simp [Value.ownBlock])
  exact ⟨this.1, this.2.1⟩
theorem FG.count (h : FG E lo v W L w A n c) : L.length = n := h.grow.owns.lies.count
theorem FG.below (h : FG E lo v W L w A n c) (hb : Below w.heap.size w w') : FG E lo v W L w' A n c := ⟨h.grow.below hb, h.away, h.low.trans (hb.mono h.low.size), h.base⟩
theorem FG.next {d : Dat} (h : FG E lo v W L w A n c) (hb : Below w.heap.size w w1) (hv : v < w1.heap.size) (hlo : lo ≤ w1.heap.size) (hG : Grow E 1 lo w' A' (n + m) c' (L ++ [d]) (fun _ => False ∨ False)) (hT : Touch (fun b => ∃ a, A = some a ∧ b = a.block) w1 w')
    (hA : ∀ a, A' = some a → A = some a ∨ w1.heap.size ≤ a.block) : FG E lo v W (L ++ [d]) w' A' (n + m) c' := by
  have h1 := h.below hb
  have hbl := h.grow.blk8
  refine ⟨hG.noB (fun b hb => hb.elim (fun h => h) (fun h => h)), fun a e => ?_, h1.low.trans (hT.below (fun b ⟨a, e, hb⟩ => by subst hb; exact Nat.le_trans h.base (hbl a e).1) h1.low.size), h.base⟩
  rcases hA a e with e1 | e1
  · exact h.away a e1
  · omega
theorem FG.upd (h : FG E lo v W L w A n c) (hg : w.grownBy w' (some v)) (hv : W.heap.size ≤ v) : FG E lo v W L w' A n c :=
  ⟨h.grow.touch (S := fun b => b = v) ⟨hg.os, hg.tape, hg.output, hg.size, fun k hk hn => hg.block k hk (fun e => hn (Option.some.inj e))⟩ (fun a e e2 => h.away a e e2) (fun b hb => hb.elim), h.away, h.low.grown hg h.low.size (fun k e => by cases e; exact hv), h.base⟩
theorem FG.ret (h : FG E lo v W L w A n c) : FreshD L W (.returned (.slice A n c)) w :=
  ⟨A, n, c, rfl, h.grow.owns.mono (fun b hb => by
    rcases hb with ⟨a, e, rfl⟩ | hb
    · have := h.grow.blk8 a e
      exact ⟨Nat.le_trans h.base this.1, this.2⟩
    · exact hb.elim), h.low⟩
theorem FG.lit (E : TypeId) (w W : World) (v : Nat) (h : Below W.heap.size W w) (hv : w.heap.size ≠ v) : FG E w.heap.size v W [] (w.alloc (.cells #[] E)) (some ⟨w.heap.size, 0, none⟩) 0 0 := by
  refine ⟨⟨[], ⟨by simp, Or.inr ⟨w.heap.size, 0, #[], rfl, Nat.le_refl _, ?_, Nat.le_refl _, Nat.zero_le _, by simp, by simp⟩⟩, (by rw [OwnsAll]), rfl, (fun x hx => by cases hx), (fun a e => ⟨fun h => h, ?_⟩), (fun b hb => hb.elim)⟩, fun a e => ?_, h.alloc h.size _, h.size⟩
  · show (w.heap.push _)[w.heap.size]? = _
    simp
  · obtain rfl := Option.some.inj e
    simp
  · obtain rfl := Option.some.inj e
    exact hv
end
theorem ownsMap_eq {P : Program} {K : TypeId} {R : Value → Option (DataW Value × List MemPlace)} {b n : Nat} {D : DataW Value} {w w' : World} (h : w.ownsMap P K R b n D) (he : w'.heap[b]? = w.heap[b]?) : w'.ownsMap P K R b n D := by
  obtain ⟨es, clock, h1, h2⟩ := h
  exact ⟨es, clock, he.trans h1, h2⟩
theorem flat_one {w : World} {x : Dat} {cs : List Value} (hf : x.flat = true) (h : Lies w x cs) : Owns w x cs (fun _ => False) := h.owns hf
theorem zeroBool (w : World) : (zeroValue 4).run Tryz.prog w = .ok (.bool false) w := by kernel_rfl
theorem infoI8 : (Tryz.prog.info? 3).map (fun i => (i.zero, i.size, i.bytes)) = some (some (.int .i64 0), 1, 8) := by kernel_rfl
theorem infoS8 : (Tryz.prog.info? 9).map (fun i => (i.zero, i.size, i.bytes)) = some (some (.string ⟨#[]⟩), 1, 16) := by kernel_rfl

/-! ### Integers -/
def SeenI (acc : List Int) (D : DataW Value) : Prop := ∀ x : Int, D.atKey (.int .i64 x) (.held (.bool false)) = .held (.bool (memB x acc))
theorem SeenI.start : SeenI [] (.map []) := fun x => by rw [memB_nil]; rfl
theorem SeenI.put {acc : List Int} {D : DataW Value} {x : Int} (h : SeenI acc D) (hD : IsMap D) : SeenI (acc ++ [x]) (D.put (.int .i64 x) (.held (.bool true))) := fun y => by
  by_cases e : y = x
  · subst e
    rw [atKey_put_same hD (show WideAt.IsKeyLit (.int .i64 y) from trivial), memB_last]
  · rw [atKey_put_other (by intro h2; exact e (by injection h2)), h y, memB_snoc y x acc e]
/-- After i elements. -/
structure OnceI (W : World) (L : List Int) (i : Nat) (w : World) (A : Option Addr) (n c : Nat) (D : DataW Value) : Prop where
  row : FG 3 W.heap.size (W.heap.size + 1) W ((onceL [] (L.take i)).map Dat.i) w A n c
  map : w.ownsMap Tryz.prog 3 heldR (W.heap.size + 1) i D
  seen : SeenI (onceL [] (L.take i)) D
theorem OnceI.start (W : World) (L : List Int) : OnceI W L 0 ((W.alloc (.cells #[] 3)).alloc (.map #[] 0)) (some ⟨W.heap.size, 0, none⟩) 0 0 (.map []) := by
  refine ⟨(FG.lit 3 W W (W.heap.size + 1) (Below.refl _ _) (by omega)).below ((Below.refl _ _).alloc (Nat.le_refl _) _), ?_, SeenI.start⟩
  have h := World.ownsMap_made (W.alloc (.cells #[] 3)) Tryz.prog 3 heldR
  rw [World.size_alloc] at h
  exact h
theorem OnceI.old {W w : World} {L : List Int} {i n c : Nat} {A : Option Addr} {D : DataW Value} {x : Int} (h : OnceI W L i w A n c D) (hx : L[i]? = some x) (hm : x ∈ onceL [] (L.take i)) : OnceI W L (i + 1) w A n c D := by
  obtain ⟨h1, h2, h3⟩ := h
  refine ⟨?_, h2.mono (Nat.le_succ _), ?_⟩
  · rw [once_seen hx hm]; exact h1
  · rw [once_seen hx hm]; exact h3
theorem OnceI.lt {W w : World} {L : List Int} {i n c : Nat} {A : Option Addr} {D : DataW Value} (h : OnceI W L i w A n c D) : W.heap.size + 1 < w.heap.size := h.map.lt
theorem OnceI.new {W w w1 w2 : World} {L : List Int} {i n c c' : Nat} {A A' : Option Addr} {D : DataW Value} {x : Int} (h : OnceI W L i w A n c D) (hx : L[i]? = some x) (hm : ¬ x ∈ onceL [] (L.take i))
    (hb : Below w.heap.size w w1) (hG : Grow 3 1 W.heap.size w2 A' (n + 1) c' ((onceL [] (L.take i)).map Dat.i ++ [.i x]) (fun _ => False ∨ False)) (hT : Touch (fun b => ∃ a, A = some a ∧ b = a.block) w1 w2) (hA : ∀ a, A' = some a → A = some a ∨ w1.heap.size ≤ a.block) :
    w2.ownsMap Tryz.prog 3 heldR (W.heap.size + 1) i D ∧ ∀ w3, w3.ownsMap Tryz.prog 3 heldR (W.heap.size + 1) (i + 1) (D.put (.int .i64 x) (.held (.bool true))) → w2.grownBy w3 (some (W.heap.size + 1)) → OnceI W L (i + 1) w3 A' (n + 1) c' (D.put (.int .i64 x) (.held (.bool true))) := by
  have hlt := h.lt
  have hs := hb.size
  have h2 : w2.ownsMap Tryz.prog 3 heldR (W.heap.size + 1) i D := ownsMap_eq (ownsMap_below h.map hb) (hT.block _ (by omega) (fun ⟨a, e, hb⟩ => h.row.away a e hb.symm))
  refine ⟨h2, fun w3 hm3 hg => ?_⟩
  have hr := h.row.next (m := 1) hb (by omega) (by omega) hG hT hA
  have hD := h2.isMap
  refine ⟨?_, hm3, ?_⟩
  · rw [once_new hx hm, List.map_append]
    exact hr.upd hg (by omega)
  · rw [once_new hx hm]
    exact h.seen.put hD
set_option maxRecDepth 100000 in
set_option maxHeartbeats 4000000 in
theorem onceI (L : List Int) (A : Option Addr) (n c : Nat) (w : World) (h : Rz .i64 w A n L) (hn : n ≤ 4398046511104) (hw : ∀ x ∈ L, -9223372036854775808 ≤ x ∧ x ≤ 9223372036854775807) :
    Calls Tryz.prog 28 #[.slice A n c] w (FreshD ((onceL [] L).map Dat.i) w) := by
  obtain ⟨i0, hi, hz0, hz1, hz2⟩ := info_parts infoI8
  have H := Lib.hid h
  have HW := Lib.hid hw
  have HC := Lib.hid (h.1 : L.length = n)
  have O0 := Lib.hid (OnceI.start w L)
  have hmm := @run_makeMap Tryz.prog
  clear h hw
  go_enter Tryz.func28, Tryz.ntmps28
  go_wp2
  go_loopw [3, 11] (fun sv iv wr => ∃ (A' : Option Addr) (m cap i : Nat) (D : DataW Value), sv = .slice A' m cap ∧ iv = .int .i64 i ∧ i ≤ n ∧ OnceI w L i wr A' m cap D) (fun _ iv _ => n - (intOf iv).toNat)
  case atStart => exact ⟨_, _, _, 0, _, rfl, rfl, Nat.zero_le _, O0.out⟩
  case round =>
    obtain ⟨A', m, cap, i, D, rfl, rfl, hin, hO⟩ := hrel
    have O := Lib.hid hO
    clear hO O0 hmm
    by_cases hlt : i < n
    · have hml : m ≤ n := by
        have h1 := O.out.row.count
        have h2 := once_len (L.take i) []
        rw [List.length_map] at h1
        simp only [List.length_take, List.length_nil] at h2
        omega
      obtain ⟨b, off, x, rfl, hbw, hzi, hcell⟩ := (H.out.below O.out.row.low).at_ hlt
      have HZ := Lib.hid hzi
      have hx := HW.out x (List.mem_of_getElem? hzi)
      clear hzi
      have HK : Hid (keyOf Tryz.prog 3 (.int .i64 x) = some (.int .i64 x)) := Lib.hid (keyOf_int_mk Tryz.underlying3 (by obtain ⟨h1, h2⟩ := hx; have e1 : IntKind.i64.min = -9223372036854775808 := rfl; have e2 : IntKind.i64.max = 9223372036854775807 := rfl; simp [Lit.wf, e1, e2]; omega))
      have HAT := Lib.hid (O.out.seen x)
      have hlo := O.out.lt
      by_cases hm : x ∈ onceL [] (L.take i)
      · have HN := Lib.hid (O.out.old HZ.out hm)
        have HA2 : Hid (D.atKey (.int .i64 x) (.held (.bool false)) = .held (.bool true)) := Lib.hid (by rw [HAT.out, memB_t hm])
        clear hm
        go_wp2_with (at_lookup; refine wpList_lookup_held rfl _ _ 83 rfl 4 (int_keyed Tryz.underlying3) Tryz.underlying83 (zeroBool _) rfl O.out.map _ (.int .i64 x) rfl HK.out _ HA2.out ?_)
        go_roundw
        case rel => exact ⟨A', m, cap, i + 1, D, rfl, by go_num, by omega, HN.out⟩
        case measure => simp [intOf]; omega
      · have HM := Lib.hid hm
        have HA2 : Hid (D.atKey (.int .i64 x) (.held (.bool false)) = .held (.bool false)) := Lib.hid (by rw [HAT.out, memB_f hm])
        clear hm
        go_wp2_with (first
          | (at_lookup; refine wpList_lookup_held rfl _ _ 83 rfl 4 (int_keyed Tryz.underlying3) Tryz.underlying83 (zeroBool _) rfl O.out.map _ (.int .i64 x) rfl HK.out _ HA2.out ?_)
          | (at_builtin; refine wpList_append_dat _ rfl _ _ 29 rfl 1 (by omega) 3 i0 _ 8 Tryz.underlying29 hi hz0 hz1 rfl hz2 w.heap.size A' m cap _ _ rfl (O.out.row.grow.below ((Below.refl _ _).alloc (Nat.le_refl _) _)) (some ⟨wr.heap.size, 0, none⟩) 1 1 [.i x] (fun _ => False) rfl (Src.lit (xs := [.int .i64 x]) rfl (by rw [Owns]) rfl (fun b h => h.elim)) (fun b h => h.elim) (fun a e h => h) (by unfold maxLen; omega) (by omega) (by simp; omega) ?_; intro A2 c2 w2 hG hT hA; have HN := Lib.hid (O.out.new HZ.out HM.out ((Below.refl _ _).alloc (Nat.le_refl _) _) hG hT hA); clear hG hT hA)
          | (at_mapUpdate; refine wpList_mapUpdate_own _ rfl _ _ _ 83 rfl 3 4 (int_keyed Tryz.underlying3) Tryz.underlying83 heldR (w.heap.size + 1) i _ rfl HN.out.1 (by unfold maxLen; omega) _ _ _ rfl rfl HK.out _ [] rfl ?_; intro w3 hm3 hg3; have HN2 := Lib.hid (HN.out.2 w3 hm3 hg3); clear hm3 hg3))
        go_roundw
        case rel => exact ⟨A2, m + 1, c2, i + 1, _, rfl, by go_num, by omega, HN2.out⟩
        case measure => simp [intOf]; omega
    · have : i = n := by omega
      subst this
      have HE : Hid (onceL [] (L.take i) = onceL [] L) := Lib.hid (by rw [List.take_of_length_le (by rw [HC.out]; exact Nat.le_refl _)])
      go_wp2
      go_ret
      have hr := O.out.row.ret
      rw [HE.out] at hr
      exact hr

/-! ### Strings -/
def SeenS (acc : List ByteArray) (D : DataW Value) : Prop := ∀ x : ByteArray, D.atKey (.string x.data.toList) (.held (.bool false)) = .held (.bool (memB x acc))
theorem SeenS.start : SeenS [] (.map []) := fun x => by rw [memB_nil]; rfl
theorem SeenS.put {acc : List ByteArray} {D : DataW Value} {x : ByteArray} (h : SeenS acc D) (hD : IsMap D) : SeenS (acc ++ [x]) (D.put (.string x.data.toList) (.held (.bool true))) := fun y => by
  by_cases e : y = x
  · subst e
    rw [atKey_put_same hD (show WideAt.IsKeyLit (.string y.data.toList) from trivial), memB_last]
  · rw [atKey_put_other (by intro h2; exact e (by injection h2 with h3; exact bytes_inj h3)), h y, memB_snoc y x acc e]
/-- After i elements. -/
structure OnceS (W : World) (L : List ByteArray) (i : Nat) (w : World) (A : Option Addr) (n c : Nat) (D : DataW Value) : Prop where
  row : FG 9 W.heap.size (W.heap.size + 1) W ((onceL [] (L.take i)).map Dat.s) w A n c
  map : w.ownsMap Tryz.prog 9 heldR (W.heap.size + 1) i D
  seen : SeenS (onceL [] (L.take i)) D
theorem OnceS.start (W : World) (L : List ByteArray) : OnceS W L 0 ((W.alloc (.cells #[] 9)).alloc (.map #[] 0)) (some ⟨W.heap.size, 0, none⟩) 0 0 (.map []) := by
  refine ⟨(FG.lit 9 W W (W.heap.size + 1) (Below.refl _ _) (by omega)).below ((Below.refl _ _).alloc (Nat.le_refl _) _), ?_, SeenS.start⟩
  have h := World.ownsMap_made (W.alloc (.cells #[] 9)) Tryz.prog 9 heldR
  rw [World.size_alloc] at h
  exact h
theorem OnceS.old {W w : World} {L : List ByteArray} {i n c : Nat} {A : Option Addr} {D : DataW Value} {x : ByteArray} (h : OnceS W L i w A n c D) (hx : L[i]? = some x) (hm : x ∈ onceL [] (L.take i)) : OnceS W L (i + 1) w A n c D := by
  obtain ⟨h1, h2, h3⟩ := h
  refine ⟨?_, h2.mono (Nat.le_succ _), ?_⟩
  · rw [once_seen hx hm]; exact h1
  · rw [once_seen hx hm]; exact h3
theorem OnceS.lt {W w : World} {L : List ByteArray} {i n c : Nat} {A : Option Addr} {D : DataW Value} (h : OnceS W L i w A n c D) : W.heap.size + 1 < w.heap.size := h.map.lt
theorem OnceS.new {W w w1 w2 : World} {L : List ByteArray} {i n c c' : Nat} {A A' : Option Addr} {D : DataW Value} {x : ByteArray} (h : OnceS W L i w A n c D) (hx : L[i]? = some x) (hm : ¬ x ∈ onceL [] (L.take i))
    (hb : Below w.heap.size w w1) (hG : Grow 9 1 W.heap.size w2 A' (n + 1) c' ((onceL [] (L.take i)).map Dat.s ++ [.s x]) (fun _ => False ∨ False)) (hT : Touch (fun b => ∃ a, A = some a ∧ b = a.block) w1 w2) (hA : ∀ a, A' = some a → A = some a ∨ w1.heap.size ≤ a.block) :
    w2.ownsMap Tryz.prog 9 heldR (W.heap.size + 1) i D ∧ ∀ w3, w3.ownsMap Tryz.prog 9 heldR (W.heap.size + 1) (i + 1) (D.put (.string x.data.toList) (.held (.bool true))) → w2.grownBy w3 (some (W.heap.size + 1)) → OnceS W L (i + 1) w3 A' (n + 1) c' (D.put (.string x.data.toList) (.held (.bool true))) := by
  have hlt := h.lt
  have hs := hb.size
  have h2 : w2.ownsMap Tryz.prog 9 heldR (W.heap.size + 1) i D := ownsMap_eq (ownsMap_below h.map hb) (hT.block _ (by omega) (fun ⟨a, e, hb⟩ => h.row.away a e hb.symm))
  refine ⟨h2, fun w3 hm3 hg => ?_⟩
  have hr := h.row.next (m := 1) hb (by omega) (by omega) hG hT hA
  have hD := h2.isMap
  refine ⟨?_, hm3, ?_⟩
  · rw [once_new hx hm, List.map_append]
    exact hr.upd hg (by omega)
  · rw [once_new hx hm]
    exact h.seen.put hD
set_option maxRecDepth 100000 in
set_option maxHeartbeats 4000000 in
theorem onceS (L : List ByteArray) (A : Option Addr) (n c : Nat) (w : World) (h : Lies w (.l (L.map Dat.s)) [.slice A n c]) (hn : n ≤ 4398046511104) (hw : ∀ x ∈ L, x.size ≤ 9007199254740992) :
    Calls Tryz.prog 40 #[.slice A n c] w (FreshD ((onceL [] L).map Dat.s) w) := by
  obtain ⟨i0, hi, hz0, hz1, hz2⟩ := info_parts infoS8
  have H := Lib.hid h
  have HW := Lib.hid hw
  have HC := Lib.hid (by have h1 := h.count; rw [List.length_map] at h1; exact h1 : L.length = n)
  have O0 := Lib.hid (OnceS.start w L)
  have hmm := @run_makeMap Tryz.prog
  clear h hw
  go_enter Tryz.func40, Tryz.ntmps40
  go_wp2
  go_loopw [3, 11] (fun sv iv wr => ∃ (A' : Option Addr) (m cap i : Nat) (D : DataW Value), sv = .slice A' m cap ∧ iv = .int .i64 i ∧ i ≤ n ∧ OnceS w L i wr A' m cap D) (fun _ iv _ => n - (intOf iv).toNat)
  case atStart => exact ⟨_, _, _, 0, _, rfl, rfl, Nat.zero_le _, O0.out⟩
  case round =>
    obtain ⟨A', m, cap, i, D, rfl, rfl, hin, hO⟩ := hrel
    have O := Lib.hid hO
    clear hO O0 hmm
    by_cases hlt : i < n
    · have hml : m ≤ n := by
        have h1 := O.out.row.count
        have h2 := once_len (L.take i) []
        rw [List.length_map] at h1
        simp only [List.length_take, List.length_nil] at h2
        omega
      obtain ⟨b, off, d, xs, rfl, hbw, hzi, hlie, hlen, hcell0⟩ := (H.out.below O.out.row.low).elem (k := 1) (fun y hy => by obtain ⟨z, -, rfl⟩ := List.mem_map.1 hy; rfl) hlt
      obtain ⟨x, hzx, rfl⟩ : ∃ x, L[i]? = some x ∧ d = .s x := by
        rw [List.getElem?_map] at hzi
        cases h1 : L[i]? with
        | none => rw [h1] at hzi; cases hzi
        | some x => rw [h1] at hzi; exact ⟨x, rfl, (Option.some.inj hzi).symm⟩
      rw [Lies] at hlie
      subst hlie
      have hcell : wr.cell? ⟨b, off + i, none⟩ = some (.string x) := by have h1 := hcell0 0 _ rfl; simpa using h1
      have HZ := Lib.hid hzx
      have hx := HW.out x (List.mem_of_getElem? hzx)
      clear hzi hzx hcell0 hlen
      have HK : Hid (keyOf Tryz.prog 9 (.string x) = some (.string x.data.toList)) := Lib.hid (Go.WideMaps.keyOf_string_mk Tryz.underlying9 (by unfold maxLen; omega))
      have HAT := Lib.hid (O.out.seen x)
      have hlo := O.out.lt
      by_cases hm : x ∈ onceL [] (L.take i)
      · have HN := Lib.hid (O.out.old HZ.out hm)
        have HA2 : Hid (D.atKey (.string x.data.toList) (.held (.bool false)) = .held (.bool true)) := Lib.hid (by rw [HAT.out, memB_t hm])
        clear hm
        go_wp2_with (at_lookup; refine wpList_lookup_held rfl _ _ 93 rfl 4 (string_keyed Tryz.underlying9) Tryz.underlying93 (zeroBool _) rfl O.out.map _ (.string x.data.toList) rfl HK.out _ HA2.out ?_)
        go_roundw
        case rel => exact ⟨A', m, cap, i + 1, D, rfl, by go_num, by omega, HN.out⟩
        case measure => simp [intOf]; omega
      · have HM := Lib.hid hm
        have HA2 : Hid (D.atKey (.string x.data.toList) (.held (.bool false)) = .held (.bool false)) := Lib.hid (by rw [HAT.out, memB_f hm])
        clear hm
        go_wp2_with (first
          | (at_lookup; refine wpList_lookup_held rfl _ _ 93 rfl 4 (string_keyed Tryz.underlying9) Tryz.underlying93 (zeroBool _) rfl O.out.map _ (.string x.data.toList) rfl HK.out _ HA2.out ?_)
          | (at_builtin; refine wpList_append_dat _ rfl _ _ 39 rfl 1 (by omega) 9 i0 _ 16 Tryz.underlying39 hi hz0 hz1 rfl hz2 w.heap.size A' m cap _ _ rfl (O.out.row.grow.below ((Below.refl _ _).alloc (Nat.le_refl _) _)) (some ⟨wr.heap.size, 0, none⟩) 1 1 [.s x] (fun _ => False) rfl (Src.lit (xs := [.string x]) rfl (by rw [Owns]) rfl (fun b h => h.elim)) (fun b h => h.elim) (fun a e h => h) (by unfold maxLen; omega) (by omega) (by simp; omega) ?_; intro A2 c2 w2 hG hT hA; have HN := Lib.hid (O.out.new HZ.out HM.out ((Below.refl _ _).alloc (Nat.le_refl _) _) hG hT hA); clear hG hT hA)
          | (at_mapUpdate; refine wpList_mapUpdate_own _ rfl _ _ _ 93 rfl 9 4 (string_keyed Tryz.underlying9) Tryz.underlying93 heldR (w.heap.size + 1) i _ rfl HN.out.1 (by unfold maxLen; omega) _ _ _ rfl rfl HK.out _ [] rfl ?_; intro w3 hm3 hg3; have HN2 := Lib.hid (HN.out.2 w3 hm3 hg3); clear hm3 hg3))
        go_roundw
        case rel => exact ⟨A2, m + 1, c2, i + 1, _, rfl, by go_num, by omega, HN2.out⟩
        case measure => simp [intOf]; omega
    · have : i = n := by omega
      subst this
      have HE : Hid (onceL [] (L.take i) = onceL [] L) := Lib.hid (by rw [List.take_of_length_le (by rw [HC.out]; exact Nat.le_refl _)])
      go_wp2
      go_ret
      have hr := O.out.row.ret
      rw [HE.out] at hr
      exact hr
end Go.Proofs.YtgibhbplgiejpaaGreat
