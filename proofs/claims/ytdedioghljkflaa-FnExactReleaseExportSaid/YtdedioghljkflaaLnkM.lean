/- Chapter 10: the program's map of exports. -/
import Derived.Test.YtdedioghljkflaaLnkP
import Derived.Test.YtdedioghljkflaaIter
import Derived.Maps.OwnSet
import Derived.Lib.SlKeysI
import Derived.LoopTactic
import Derived.Lib.Hide
import Derived.Deep.QuietTactic
import Derived.BigQuiet
import Derived.Deep.RegionWith
import Derived.Handy
namespace Go.Proofs.Ytdedioghljkflaa
open Go.RowKit Go.Maps Go.Sort
set_option linter.unusedVariables false
set_option linter.unusedSimpArgs false
/-! ### A map from places -/
theorem ownsMap_belowL {P : Program} {K : TypeId} {R : Value → Option (DataW Value × List MemPlace)} {b n : Nat} {D : DataW Value} {w w' : World} (h : w.ownsMap P K R b n D) (hb : Below w.heap.size w w') : w'.ownsMap P K R b n D := by
  have hlt := h.lt
  obtain ⟨es, clock, h1, h2⟩ := h
  exact ⟨es, clock, (hb.block b hlt).trans h1, h2⟩
theorem ownsMap_touchL {P : Program} {K : TypeId} {R : Value → Option (DataW Value × List MemPlace)} {b n : Nat} {D : DataW Value} {w w' : World} {S : Nat → Prop} (h : w.ownsMap P K R b n D) (ht : Touch S w w') (hS : ¬ S b) : w'.ownsMap P K R b n D := by
  have hlt := h.lt
  obtain ⟨es, clock, h1, h2⟩ := h
  exact ⟨es, clock, (ht.block b hlt hS).trans h1, h2⟩
/-- A value stands in the map as it is. -/
def heldR (v : Value) : Option (DataW Value × List MemPlace) := some (.held v, [])
def vx (d : Dat) : Value := .agg (ic d).toArray
def kl (j : Nat) : Lit := .int .i64 (j : Int)
theorem kl_inj {i j : Nat} (h : ¬ i = j) : ¬ kl i = kl j := fun e => h (by
  have h1 : Lit.int .i64 (i : Int) = Lit.int .i64 (j : Int) := e
  injection h1 with h2 h3
  omega)
def MapL (D : DataW Value) (M : List (Option Dat)) : Prop :=
  (∀ x : Int, has D (.int .i64 x) = true ↔ ∃ (j : Nat) (d : Dat), M[j]? = some (some d) ∧ x = j) ∧ ∀ (j : Nat) (d : Dat), M[j]? = some (some d) → ∀ z, D.atKey (kl j) z = .held (vx d)
theorem MapL.start : MapL (.map []) [] := ⟨fun x => ⟨fun h => by simp [has] at h, fun ⟨j, d, h, _⟩ => by simp at h⟩, fun j d h => by simp at h⟩
theorem MapL.putM {D : DataW Value} {M M' : List (Option Dat)} {i : Nat} {d : Dat} (h : MapL D M) (hD : IsMap D) (h1 : M'[i]? = some (some d)) (h2 : ∀ j, ¬ j = i → M'[j]? = M[j]?) : MapL (D.put (kl i) (.held (vx d))) M' := by
  refine ⟨fun x => ?_, fun j e hj z => ?_⟩
  · by_cases hx : x = i
    · subst hx
      rw [show (Lit.int .i64 (i : Int)) = kl i from rfl, has_put_same hD (show WideAt.IsKeyLit (kl i) from trivial)]
      exact ⟨fun _ => ⟨i, d, h1, rfl⟩, fun _ => rfl⟩
    · rw [has_put_other (by intro e; exact hx (by injection e)), h.1 x]
      constructor
      · rintro ⟨j, e, hj, rfl⟩
        exact ⟨j, e, by rw [h2 j (by omega)]; exact hj, rfl⟩
      · rintro ⟨j, e, hj, rfl⟩
        exact ⟨j, e, by rw [← h2 j (by omega)]; exact hj, rfl⟩
  · by_cases hji : j = i
    · subst hji
      rw [h1] at hj
      obtain rfl : d = e := by injection hj with hj; injection hj
      rw [atKey_put_same hD (show WideAt.IsKeyLit (kl j) from trivial)]
    · rw [atKey_put_other (kl_inj hji)]
      exact h.2 j e (by rw [← h2 j hji]; exact hj) z
theorem MapL.delM {D : DataW Value} {M M' : List (Option Dat)} {i : Nat} (h : MapL D M) (h1 : ∀ d, ¬ M'[i]? = some (some d)) (h2 : ∀ j, ¬ j = i → M'[j]? = M[j]?) : MapL (D.del (kl i)) M' := by
  refine ⟨fun x => ?_, fun j e hj z => ?_⟩
  · by_cases hx : x = i
    · subst hx
      rw [show (Lit.int .i64 (i : Int)) = kl i from rfl, has_del_same]
      constructor
      · intro h
        cases h
      · rintro ⟨j, d, hj, e⟩
        obtain rfl : j = i := by omega
        exact absurd hj (h1 d)
    · rw [has_del_other (by intro e; exact hx (by injection e)), h.1 x]
      constructor
      · rintro ⟨j, e, hj, rfl⟩
        exact ⟨j, e, by rw [h2 j (by omega)]; exact hj, rfl⟩
      · rintro ⟨j, e, hj, rfl⟩
        exact ⟨j, e, by rw [← h2 j (by omega)]; exact hj, rfl⟩
  · by_cases hji : j = i
    · subst hji
      exact absurd hj (h1 e)
    · rw [atKey_del_other (kl_inj hji)]
      exact h.2 j e (by rw [← h2 j hji]; exact hj) z
/-- The keys, ascending. -/
def kidx : Nat → List (Option Dat) → List Int
  | _, [] => []
  | k, none :: M => kidx (k + 1) M
  | k, some _ :: M => (k : Int) :: kidx (k + 1) M
theorem kidx_mem : ∀ {M : List (Option Dat)} {k : Nat} {x : Int}, x ∈ kidx k M ↔ ∃ (j : Nat) (d : Dat), M[j]? = some (some d) ∧ x = ((k + j : Nat) : Int)
  | [], k, x => by simp [kidx]
  | none :: M, k, x => by
    rw [kidx, kidx_mem]
    constructor
    · rintro ⟨j, d, h, rfl⟩
      exact ⟨j + 1, d, by simpa using h, by omega⟩
    · rintro ⟨j, d, h, rfl⟩
      cases j with
      | zero => simp at h
      | succ j => exact ⟨j, d, by simpa using h, by omega⟩
  | some e :: M, k, x => by
    rw [kidx, List.mem_cons, kidx_mem]
    constructor
    · rintro (rfl | ⟨j, d, h, rfl⟩)
      · exact ⟨0, e, rfl, by omega⟩
      · exact ⟨j + 1, d, by simpa using h, by omega⟩
    · rintro ⟨j, d, h, rfl⟩
      cases j with
      | zero => exact Or.inl (by omega)
      | succ j => exact Or.inr ⟨j, d, by simpa using h, by omega⟩
theorem kidx_lt : ∀ {M : List (Option Dat)} {k : Nat}, (kidx k M).Pairwise (· < ·)
  | [], k => by rw [kidx]; exact List.Pairwise.nil
  | none :: M, k => by rw [kidx]; exact kidx_lt
  | some e :: M, k => by
    rw [kidx]
    refine List.Pairwise.cons (fun x hx => ?_) kidx_lt
    obtain ⟨j, d, -, rfl⟩ := kidx_mem.1 hx
    omega
theorem kidx_at : ∀ {M : List (Option Dat)} {k i : Nat} {x : Int}, (kidx k M)[i]? = some x → ∃ (j : Nat) (d : Dat), M[j]? = some (some d) ∧ x = ((k + j : Nat) : Int) ∧ (M.filterMap id)[i]? = some d
  | [], k, i, x, h => by simp [kidx] at h
  | none :: M, k, i, x, h => by
    rw [kidx] at h
    obtain ⟨j, d, h1, h2, h3⟩ := kidx_at h
    exact ⟨j + 1, d, by simpa using h1, by omega, by simpa using h3⟩
  | some e :: M, k, 0, x, h => by
    rw [kidx] at h
    obtain rfl : (k : Int) = x := by simpa using h
    exact ⟨0, e, rfl, by omega, by simp⟩
  | some e :: M, k, i + 1, x, h => by
    rw [kidx] at h
    obtain ⟨j, d, h1, h2, h3⟩ := kidx_at (M := M) (k := k + 1) (i := i) (x := x) (by simpa using h)
    exact ⟨j + 1, d, by simpa using h1, by omega, by simpa using h3⟩
theorem kidx_len : ∀ (M : List (Option Dat)) (k : Nat), (kidx k M).length = (M.filterMap id).length
  | [], k => rfl
  | none :: M, k => by rw [kidx, kidx_len M]; simp
  | some e :: M, k => by rw [kidx, List.length_cons, kidx_len M]; simp
theorem filterMap_lenL (M : List (Option Dat)) : (M.filterMap id).length ≤ M.length := List.length_filterMap_le _ _
theorem sorted_kidx {P : Program} {K : TypeId} {R : Value → Option (DataW Value × List MemPlace)} {b n : Nat} {D : DataW Value} {M : List (Option Dat)} {w : World} {ss : List Int} (hown : w.ownsMap P K R b n D) (hK : Keyed P K) (hk : P.underlying K = some (.int .i64)) (h : MapL D M) (hp : ss.Perm (intKeys D)) :
    ss.mergeSort (fun x y => decide (x ≤ y)) = kidx 0 M := by
  obtain ⟨es, hD, hpw, _⟩ := hown.entries hK
  obtain ⟨es', hD', hko⟩ := hown.keysOf
  obtain rfl : es = es' := by rw [hD] at hD'; simpa using hD'
  subst hD
  have h1 : (kidx 0 M).Perm (intKeys (.map es)) := perm_intKeys hpw (fun p hp => by obtain ⟨v, hv⟩ := hko p hp; obtain ⟨x, _, hx, _⟩ := Maps.keyOf_i64 hk hv; exact ⟨x, hx⟩) (kidx_lt.imp (fun h => by omega)) (fun x => by
    rw [h.1 x, kidx_mem]
    constructor
    · rintro ⟨j, d, h1, h2⟩; exact ⟨j, d, h1, by omega⟩
    · rintro ⟨j, d, h1, h2⟩; exact ⟨j, d, h1, by omega⟩)
  rw [mergeSort_of_perm_i (hp.trans h1.symm)]
  exact List.mergeSort_of_pairwise (kidx_lt.imp (fun h => by simp; omega))
theorem map_some_at {L : List Dat} {i : Nat} : (L.map some)[i]? = (L[i]?).map some := List.getElem?_map ..
theorem fm_map (L : List Dat) : (L.map some).filterMap id = L := by simp
theorem fm_none : ∀ {L : List Dat} {i : Nat}, i < L.length → ((L.map some).set i none).filterMap id = L.eraseIdx i
  | [], i, h => by simp at h
  | d :: L, 0, _ => by simp
  | d :: L, i + 1, h => by
    have := fm_none (L := L) (i := i) (by simpa using h)
    simpa using this
theorem fm_some : ∀ {L : List Dat} {i : Nat} {d' : Dat}, i < L.length → ((L.map some).set i (some d')).filterMap id = L.set i d'
  | [], i, _, h => by simp at h
  | d :: L, 0, d', _ => by simp
  | d :: L, i + 1, d', h => by
    have := fm_some (L := L) (i := i) (d' := d') (by simpa using h)
    simpa using this
theorem row_cellsL {w : World} {base E : Nat} {v : Value} {m : Nat} {xs : List Value} (h : w.ownsRow base E 1 v m xs) : ∃ A c, v = .slice A m c ∧ Rd w w.heap.size A xs ∧ ∀ a, A = some a → base ≤ a.block := by
  have hlen := h.1
  rcases h.2 with ⟨rfl, hm⟩ | ⟨g, cap, cur, rfl, hb, hgg, h1, h2, h3, h4⟩
  · subst hm
    exact ⟨none, 0, rfl, Or.inl (List.eq_nil_of_length_eq_zero (by simpa using hlen)), fun a e => by cases e⟩
  · refine ⟨_, _, rfl, Or.inr ⟨g, 0, rfl, (Array.getElem?_eq_some_iff.1 hgg).1, fun j u hj => ?_⟩, fun a e => by obtain rfl := Option.some.inj e; exact hb⟩
    rw [Nat.zero_add, cell_of_row w g j cur E (0, 0) hgg, ← hj, ← h4, List.getElem?_take]
    have hjl : j < m * 1 := by
      have := (List.getElem?_eq_some_iff.1 hj).1
      omega
    rw [if_pos hjl]
    simp
theorem wpList_lookup_heldL {P : Program} {K : TypeId} {b n : Nat} {D : DataW Value} {w : World} {ops : Array Oper} {rest : List Oper} {o : Oper} {a : Act} {Q : Exit → Act → World → Prop} (hg : o.guard = none) (m x : Operand) (t : TypeId) (hop : o.op = Op.lookup t m x false)
    (e : TypeId) (hK : Keyed P K) (ht : P.underlying t = some (.map K e)) {z : Value} (hz : (zeroValue e).run P w = .ok z w) (hm : a.eval m = .map (some b)) (hown : w.ownsMap P K heldR b n D) (key : Value) (kl : Lit) (hx : a.eval x = key) (hkey : keyOf P K key = some kl)
    (v : Value) (hat : D.atKey kl (.held z) = .held v) (h : wpList P ops Q rest (a.put o.dst v) w) : wpList P ops Q (o :: rest) a w := by
  refine wpList_plain hg fun K' hK' => ?_
  obtain ⟨v', ps, hrun, hv⟩ := hown.lookup hK ht hz rfl hkey
  obtain rfl : v' = v := by
    rw [hat] at hv
    have := Option.some.inj hv
    exact DataW.held.inj (congrArg Prod.fst this)
  unfold Oper.wp
  simp [execOp, hop, hm, hx, hrun, Result.andThen]
  exact hK' _ _ h
theorem zeroX (w : World) : (zeroValue 54).run Try.prog w = .ok (.agg #[.int .i64 0, .int .i64 0, .int .i64 0]) w := by kernel_rfl
theorem key_of {j : Nat} (h : j ≤ 9223372036854775807) : keyOf Try.prog 3 (.int .i64 (j : Int)) = some (kl j) := keyOf_int_mk Try.underlying3 (by have e1 : IntKind.i64.min = -9223372036854775808 := rfl; have e2 : IntKind.i64.max = 9223372036854775807 := rfl; simp [Lit.wf, e1, e2]; omega)
/-- A new map that holds the rows' elements by their places. -/
def GivesMap (L : List Dat) (n : Nat) (w : World) (e : Ending) (w' : World) : Prop := ∃ (b : Nat) (D : DataW Value), e = .returned (.map (some b)) ∧ w.heap.size ≤ b ∧ w'.ownsMap Try.prog 3 heldR b n D ∧ MapL D (L.map some) ∧ Below w.heap.size w w'
/-- Midway. -/
def ByP (W : World) (L : List Dat) (i : Nat) (w : World) : Prop := ∃ D : DataW Value, w.ownsMap Try.prog 3 heldR W.heap.size i D ∧ MapL D ((L.take i).map some) ∧ Below W.heap.size W w
theorem ByP.next {W w w1 w2 : World} {L : List Dat} {i : Nat} {d : Dat} {D : DataW Value} (hL : MapL D ((L.take i).map some)) (hlow : Below W.heap.size W w) (hD : IsMap D) (hd : L[i]? = some d) (hb : Below w.heap.size w w1) (h2 : w2.ownsMap Try.prog 3 heldR W.heap.size (i + 1) (D.put (kl i) (.held (vx d)))) (hg : w1.grownBy w2 (some W.heap.size)) : ByP W L (i + 1) w2 := by
  have hil := (List.getElem?_eq_some_iff.1 hd).1
  have hlen : ((L.take i).map some).length = i := by simp; omega
  refine ⟨_, h2, ?_, (hlow.trans (hb.mono hlow.size)).grown hg (Nat.le_trans hlow.size hb.size) (fun k e => by injection e with e; omega)⟩
  refine hL.putM hD ?_ fun j hj => ?_
  · rw [map_some_at, List.getElem?_take, if_pos (by omega), hd]; rfl
  · rw [map_some_at, map_some_at, List.getElem?_take, List.getElem?_take]
    by_cases h1 : j < i
    · rw [if_pos (by omega), if_pos h1]
    · rw [if_neg (by omega), if_neg h1]
theorem Rd.touchL {S : Nat → Prop} {w w' : World} {A : Option Addr} {xs : List Value} (h : Rd w w.heap.size A xs) (ht : Touch S w w') (hA : ∀ a, A = some a → ¬ S a.block) : Rd w' w'.heap.size A xs := by
  rcases h with rfl | ⟨b, off, rfl, hlt, hc⟩
  · exact Or.inl rfl
  · exact Or.inr ⟨b, off, rfl, Nat.lt_of_lt_of_le hlt ht.size, fun j v hj => (World.cell?_of_block (w := w) (w' := w') (a := ⟨b, off + j, none⟩) (ht.block b hlt (hA _ rfl))).trans (hc j v hj)⟩
/-- Midway: the keys' row, the rows that were taken out so far. -/
structure InO (W : World) (xs : List Value) (L : List Dat) (A : Option Addr) (B : Option Addr) (i k : Nat) (w : World) : Prop where
  grow : Grow 54 3 W.heap.size w B i k (L.take i) (fun _ => False)
  low : Below W.heap.size W w
  keys : Rd w w.heap.size A xs
  apart : Apart B A
  old : ∀ a, A = some a → a.block < w.heap.size
theorem InO.next {W w w1 w3 : World} {xs : List Value} {L : List Dat} {A B B' : Option Addr} {i k k' : Nat} {d : Dat} (h : InO W xs L A B i k w) (hb : Below w.heap.size w w1) (hd : L[i]? = some d) (hG : Grow 54 3 W.heap.size w3 B' (i + 1) k' (L.take i ++ [d]) (fun _ => False ∨ False)) (hT : Touch (fun b => ∃ a, B = some a ∧ b = a.block) w1 w3)
    (hA : ∀ a, B' = some a → B = some a ∨ w1.heap.size ≤ a.block) : InO W xs L A B' (i + 1) k' w3 := by
  have hk : Rd w1 w1.heap.size A xs := h.keys.touchL (S := fun _ => False) (Touch.of_below hb) (fun _ _ h => h)
  refine ⟨?_, h.low.trans ((hb.mono h.low.size).trans (hT.below (fun b ⟨a, e, hx⟩ => by rw [hx]; exact (h.grow.blkF a e).1) (Nat.le_trans h.low.size hb.size))), hk.touchL hT (fun a e ⟨a', e', hx⟩ => h.apart a' a e' e hx.symm), ?_, fun a e => Nat.lt_of_lt_of_le (h.old a e) (Nat.le_trans hb.size hT.size)⟩
  · rw [List.take_add_one, hd]
    exact hG.noF (fun b h => h.elim (fun h => h) (fun h => h))
  · intro a a' e e' hx
    rcases hA a e with h1 | h1
    · exact h.apart a a' h1 e' hx
    · rcases hk with rfl | ⟨b, off, e2, hlt, -⟩
      · have h2 := h.old a' e'
        have h3 := hb.size
        omega
      · rw [e2] at e'
        obtain rfl := Option.some.inj e'
        simp only at hx
        omega
/-- The rows that were taken out. -/
def GivesG (L : List Dat) (w : World) (e : Ending) (w' : World) : Prop := ∃ (A : Option Addr) (m c : Nat), e = .returned (.slice A m c) ∧ Grow 54 3 w.heap.size w' A m c L (fun _ => False) ∧ Below w.heap.size w w'
set_option maxRecDepth 100000 in
set_option maxHeartbeats 4000000 in
theorem implByPlace (L : List Dat) (A : Option Addr) (n c : Nat) (w : World) (h : Lies w (.l L) [.slice A n c]) (ht : ∀ x ∈ L, Has tyExport x) (hn : n ≤ 1099511627776) :
    Calls Try.prog 47 #[.slice A n c] w (GivesMap L n w) := by
  have H := Lib.hid h
  have HT := Lib.hid ht
  have HC := Lib.hid h.count
  have M0 : Hid (ByP w L 0 (w.alloc (.map #[] 0))) := Lib.hid ⟨.map [], World.ownsMap_made w _ _ _, by rw [List.take_zero]; exact MapL.start, (Below.refl _ _).alloc (Nat.le_refl _) _⟩
  have hmm := @run_makeMap Try.prog
  clear h ht
  go_enter Try.func47, Try.ntmps47
  go_wp2
  go_loopw [9] (fun iv wr => ∃ i : Nat, iv = .int .i64 i ∧ i ≤ n ∧ ByP w L i wr) (fun iv _ => n - (intOf iv).toNat)
  case atStart => exact ⟨0, rfl, Nat.zero_le _, M0.out⟩
  case round =>
    obtain ⟨i, rfl, hin, D, hm, hL, hb⟩ := hrel
    have HM := Lib.hid hm
    have HL := Lib.hid hL
    have HB := Lib.hid hb
    clear hm hL hb M0 hmm
    by_cases hlt : i < n
    · obtain ⟨b, off, d, xs, rfl, hbw, hzi, hlie, hlen, hcell⟩ := (H.out.below HB.out).elem (fun x hx => (HT.out x hx).width) hlt
      obtain ⟨p0, p1, p2, hd, rfl⟩ := invExport (HT.out d (List.mem_of_getElem? hzi)) hlie
      have r0 : wr.cell? ⟨b, off + i * 3, none⟩ = some (.int .i64 p0) := hcell 0 _ rfl
      have r1 : wr.cell? ⟨b, off + i * 3 + 1, none⟩ = some (.int .i64 p1) := hcell 1 _ rfl
      have r2 : wr.cell? ⟨b, off + i * 3 + 2, none⟩ = some (.int .i64 p2) := hcell 2 _ rfl
      have HZ : Hid (L[i]? = some (.r [.i p0, .i p1, .i p2])) := Lib.hid (by rw [← hd]; exact hzi)
      clear hzi hlie hcell hd hlen
      have HA : Hid (Below wr.heap.size wr (wr.alloc (.cells #[.int .i64 p0, .int .i64 p1, .int .i64 p2] 54))) := Lib.hid ((Below.refl _ _).alloc (Nat.le_refl _) _)
      have HM2 := Lib.hid (ownsMap_belowL HM.out HA.out)
      have HKK := Lib.hid (key_of (j := i) (by omega))
      go_wp2_with (at_mapUpdate; refine wpList_mapUpdate_own _ rfl _ _ _ 55 rfl 3 54 (int_keyed Try.underlying3) Try.underlying55 heldR (w.heap.size) i _ rfl HM2.out (by unfold maxLen; omega) _ (vx (.r [.i p0, .i p1, .i p2])) _ rfl rfl HKK.out _ [] rfl ?_; intro w3 hm3 hg3; have HN := Lib.hid (ByP.next HL.out HB.out HM2.out.isMap HZ.out HA.out hm3 hg3); clear hm3 hg3)
      go_roundw
      case rel => exact ⟨i + 1, by go_num, by omega, HN.out⟩
      case measure => (simp [intOf]; try omega)
    · obtain rfl : i = n := by omega
      have HR : Hid (GivesMap L i w (.returned (.map (some w.heap.size))) wr) := Lib.hid ⟨_, D, rfl, Nat.le_refl _, HM.out, by have h1 := HL.out; rw [List.take_of_length_le (by rw [HC.out]; exact Nat.le_refl _)] at h1; exact h1, HB.out⟩
      go_wp2_with fail
      go_ret
      exact HR.out
set_option maxRecDepth 100000 in
set_option maxHeartbeats 4000000 in
theorem implInOrder (M : List (Option Dat)) (b n : Nat) (D : DataW Value) (w : World) (hm : w.ownsMap Try.prog 3 heldR b n D) (hL : MapL D M) (hX : ∀ d, some d ∈ M → X3 d) (hn : M.length ≤ 1099511627776) (hnn : n ≤ 1099511627777) :
    Calls Try.prog 48 #[.map (some b)] w (GivesG (M.filterMap id) w) := by
  obtain ⟨i0, hi, hz0, hz1, hz2⟩ := info_parts infoExport
  have hsz := hm.size_le
  have hmx : Maps.size D ≤ maxLen := by unfold maxLen; omega
  have hby : Maps.size D * 8 ≤ 140737488355328 := by omega
  have hfl := filterMap_lenL M
  have HIc : Hid (∀ x ∈ M.filterMap id, Ic 3 x) := Lib.hid (fun x hx => by obtain ⟨y, hy, e⟩ := List.mem_filterMap.1 hx; exact (hX x (by rw [← e]; exact hy)).ic)
  have A1 : Hid (Below w.heap.size w (w.alloc (.cells #[] 54))) := Lib.hid ((Below.refl _ _).alloc (Nat.le_refl _) _)
  have HM := Lib.hid (ownsMap_belowL hm A1.out)
  have HW := Lib.hid hm
  have HL := Lib.hid hL
  have G0 := Lib.hid (Grow.lit9 54 3 w)
  have HX : Hid (∀ d, some d ∈ M → X3 d) := Lib.hid hX
  clear hm hL hX hsz
  go_enter Try.func48, Try.ntmps48
  go_wp2_with fail
  refine (keysOfExport (some b) _).mono ?_
  rintro e w1 ⟨rfl, rfl⟩
  go_wp2_with fail
  have CSO := sortedOfExport b n D heldR _ HM.out hmx hby
  simp only [World.size_alloc] at CSO
  refine CSO.mono ?_
  clear CSO
  rintro e w2 ⟨v, ss, rfl, hp, hrow, hnil, hb⟩
  have HS := Lib.hid (sorted_kidx HW.out (int_keyed Try.underlying3) Try.underlying3 HL.out hp)
  have hlen : ss.length = (kidx 0 M).length := by have h1 := congrArg List.length HS.out; rw [List.length_mergeSort] at h1; exact h1
  rw [HS.out, hlen] at hrow
  have hold : ∀ g, v.ownBlock = some g → g < w2.heap.size := fun g e => (hrow.lt g e).2
  obtain ⟨A, c, rfl, hrd, hbase⟩ := row_cellsL hrow
  have HLN := Lib.hid (kidx_len M 0)
  have hold2 : ∀ a, A = some a → a.block < w2.heap.size := fun a e => hold a.block (by rw [e]; rfl)
  have HB0 : Hid (Below (w.alloc (.cells #[] 54)).heap.size (w.alloc (.cells #[] 54)) w2) := Lib.hid (((Below.refl _ _).alloc (Nat.le_refl _) _).trans (hb.mono (by simp)))
  have HB : Hid (Below w.heap.size w w2) := Lib.hid (A1.out.trans (HB0.out.mono (by simp)))
  have I0 : Hid (InO w ((kidx 0 M).map encZ) (M.filterMap id) A (some ⟨w.heap.size, 0, none⟩) 0 0 w2) := Lib.hid ⟨by rw [List.take_zero]; exact G0.out.below HB0.out, HB.out, hrd, fun a a' e e' hx => by obtain rfl := Option.some.inj e; have h1 := hbase a' e'; simp only at hx; omega, hold2⟩
  generalize (kidx 0 M).length = m at hrow HLN
  have hmM : m ≤ M.length := by have h1 := HLN.out; omega
  clear hrow hrd hnil hb hp hlen G0 HM HB HB0 hold hold2 hbase
  go_wp2_with fail
  go_loopw [3, 11] (fun lv iv wr => ∃ (B : Option Addr) (k i : Nat), lv = .slice B i k ∧ iv = .int .i64 i ∧ i ≤ m ∧ InO w ((kidx 0 M).map encZ) (M.filterMap id) A B i k wr) (fun _ iv _ => m - (intOf iv).toNat)
  case atStart => exact ⟨_, _, 0, rfl, rfl, Nat.zero_le _, I0.out⟩
  case round =>
    obtain ⟨B, k, i, rfl, rfl, hin, hI⟩ := hrel
    clear I0
    have HI := Lib.hid hI
    clear hI
    by_cases hlt : i < m
    · obtain ⟨x, hx⟩ : ∃ x, (kidx 0 M)[i]? = some x := ⟨_, List.getElem?_eq_getElem (by have h1 := kidx_len M 0; have h2 := HLN.out; omega)⟩
      obtain ⟨j, d, hj, rfl, hf⟩ := kidx_at hx
      rw [Nat.zero_add] at hx
      have hxe : ((kidx 0 M).map encZ)[i]? = some (.int .i64 (j : Int)) := by rw [List.getElem?_map, hx]; rfl
      obtain ⟨g, off, rfl, hgb, hc⟩ := HI.out.keys.at_ (List.getElem?_eq_some_iff.1 hxe).1
      have r0 : wr.cell? ⟨g, off + i, none⟩ = some (.int .i64 (j : Int)) := by rw [hc]; exact (List.getElem?_eq_getElem _).symm.trans hxe
      have hjM := (List.getElem?_eq_some_iff.1 hj).1
      obtain ⟨a, b', c', rfl⟩ := HX.out d (List.mem_of_getElem? hj)
      have HF := Lib.hid hf
      have HMr := Lib.hid (ownsMap_belowL HW.out HI.out.low)
      have HKK := Lib.hid (key_of (j := j) (by omega))
      have HAT : Hid (D.atKey (kl j) (.held (.agg #[.int .i64 0, .int .i64 0, .int .i64 0])) = .held (.agg #[.int .i64 a, .int .i64 b', .int .i64 c'])) := Lib.hid (HL.out.2 j _ hj _)
      have HA : Hid (Below wr.heap.size wr (wr.alloc (.cells #[.int .i64 a, .int .i64 b', .int .i64 c'] 54))) := Lib.hid ((Below.refl _ _).alloc (Nat.le_refl _) _)
      have GA := Lib.hid (HI.out.grow.below HA.out)
      have SL := Lib.hid (Src.litK (w := wr) (E := 54) (C := #[.int .i64 a, .int .i64 b', .int .i64 c']) (d := .r [.i a, .i b', .i c']) (k := 3) (X3.ic ⟨_, _, _, rfl⟩) rfl)
      have hlo := HI.out.low.size
      clear hx hf hj hxe hc
      go_wp2_with (first
        | (at_lookup; refine wpList_lookup_heldL rfl _ _ 55 rfl 54 (int_keyed Try.underlying3) Try.underlying55 (zeroX _) rfl HMr.out _ (kl j) rfl HKK.out (.agg #[.int .i64 a, .int .i64 b', .int .i64 c']) HAT.out ?_)
        | (refine wpList_append_dat _ rfl _ _ 24 rfl 3 (by omega) 54 i0 _ 24 Try.underlying24 hi hz0 hz1 rfl hz2 w.heap.size B i k _ _ rfl GA.out (some ⟨wr.heap.size, 0, none⟩) 1 1 [.r [.i a, .i b', .i c']] (fun _ => False) rfl SL.out (fun b h => h.elim) (fun a e h => h) (by unfold maxLen; omega) (by omega) (by simp; omega) ?_; intro B9 k9 w3 hG hT hA; have HN := Lib.hid (HI.out.next HA.out HF.out hG hT hA); clear hG hT hA)
        | fail)
      go_roundw
      case rel => exact ⟨B9, k9, i + 1, rfl, by go_num, by omega, HN.out⟩
      case measure => (simp [intOf]; try omega)
    · obtain rfl : i = m := by omega
      have HR : Hid (GivesG (M.filterMap id) w (.returned (.slice B i k)) wr) := Lib.hid ⟨B, i, k, rfl, by have h1 := HI.out.grow; rw [List.take_of_length_le (by have h1 := HLN.out; omega)] at h1; exact h1, HI.out.low⟩
      go_wp2_with fail
      go_ret
      exact HR.out
end Go.Proofs.Ytdedioghljkflaa
