/- Of no program: 'append' onto a slice of integers that the call owns, from whatever source. -/
import Derived.Test.YthgcodbcafpmhaaDoorKit
import Derived.RegionTactic
namespace Go.Proofs.YthgcodbcafpmhaaDoor
open Go.RowKit

theorem Own.alloc {k : IntKind} {E : TypeId} {lo hi : Nat} {w : World} {A : Option Addr} {n c : Nat} {zs : List Int} (h : Own k E lo hi w A n c zs) (o : Obj) : Own k E lo hi (w.alloc o) A n c zs :=
  h.below ((Below.refl _ _).alloc (Nat.le_refl _) o)
theorem Rz.one (k : IntKind) (w : World) (z : Int) (E : TypeId) : Rz k (w.alloc (.cells #[.int k z] E)) (some ⟨w.heap.size, 0, none⟩) 1 [z] := by
  refine ⟨rfl, Or.inr ⟨w.heap.size, 0, rfl, by simp, fun j v hj => ?_⟩⟩
  match j, hj with
  | 0, hj =>
    simp at hj
    subst hj
    simp
/-- A new slice with nothing in it. -/
theorem Own.none_ (k : IntKind) (E : TypeId) (w : World) : Own k E w.heap.size (w.heap.size + 1) (w.alloc (.cells #[] E)) (some ⟨w.heap.size, 0, none⟩) 0 0 [] :=
  ⟨rfl, World.ownsRow_lit w #[] 0 (Nat.le_refl _) (by unfold maxLen; omega) rfl, by simp, fun a e => by obtain rfl := Option.some.inj e; simp⟩
theorem Own.nil_ (k : IntKind) (E : TypeId) (lo hi : Nat) (w : World) (hh : hi ≤ w.heap.size) : Own k E lo hi w none 0 0 [] :=
  ⟨rfl, World.ownsRow_nil w lo E 1, hh, fun a e => by cases e⟩
section
variable {P : Program} (w : World)
theorem run_append_of_nil (base : Nat) (t ty e : TypeId) (i : TypeInfo) (size : Nat) (ht : P.underlying t = some (.slice e)) (hi : P.info? e = some i)
    (v : Value) (n : Nat) (xs : List Value) (hown : w.ownsRow base e size v n xs) (c : Nat) : (Builtin.append_ #[t, t] ty #[v, .slice none 0 c]).run P w = .ok v w := by
  rcases hown.2 with ⟨rfl, rfl⟩ | ⟨g, cap, cur, rfl, _, _, hnc, _⟩
  · simp [Builtin.append_, run_underlying ht, sizeOf, typeInfo, hi, Builtin.lenOf, Builtin.firstCells]
  · simp [Builtin.append_, run_underlying ht, sizeOf, typeInfo, hi, Builtin.lenOf, Builtin.firstCells, hnc, storeCells]
theorem run_append_rz (k : IntKind) (t ty E : TypeId) (i : TypeInfo) (z : Int) (bytes : Nat) (ht : P.underlying t = some (.slice E)) (hi : P.info? E = some i) (hz : i.zero = some (.int k z))
    (hsize : i.size = 1) (hby : i.bytes = bytes) (lo hi' : Nat) (A0 : Option Addr) (n c0 : Nat) (ys : List Int) (hO : Own k E lo hi' w A0 n c0 ys)
    (A : Option Addr) (m c : Nat) (zs : List Int) (hR : Rz k w A m zs) (h63 : n + m ≤ maxLen) (hbytes : (n + m) * bytes ≤ 140737488355328) (hlo : lo ≤ w.heap.size) :
    ∃ A' c' w', (Builtin.append_ #[t, t] ty #[.slice A0 n c0, .slice A m c]).run P w = .ok (.slice A' (n + m) c') w' ∧ Own k E lo w'.heap.size w' A' (n + m) c' (ys ++ zs) ∧ Step lo hi' w w' := by
  have hfin : ∀ v' w', w'.ownsRow lo E 1 v' (n + m) (ys.map (Value.int k) ++ zs.map (Value.int k)) → w.grownBy w' (Value.slice A0 n c0).ownBlock →
      (Builtin.append_ #[t, t] ty #[.slice A0 n c0, .slice A m c]).run P w = .ok v' w' →
      ∃ A' c' w', (Builtin.append_ #[t, t] ty #[.slice A0 n c0, .slice A m c]).run P w = .ok (.slice A' (n + m) c') w' ∧ Own k E lo w'.heap.size w' A' (n + m) c' (ys ++ zs) ∧ Step lo hi' w w' := by
    intro v' w' h1 h2 h3
    obtain ⟨A', c', rfl, h⟩ := Own.mk_ (k := k) (zs := ys ++ zs) v' h1 (by rw [List.length_append, hO.1, hR.1]) (by simp)
    exact ⟨A', c', w', h3, h, Step.of_grown h2 hO.blk⟩
  have hcase : (m = 0 ∧ zs = [] ∧ A = none) ∨ ∃ ad, A = some ad := by
    cases A with
    | some ad => exact Or.inr ⟨ad, rfl⟩
    | none =>
      left
      rcases hR.2 with h | ⟨b, off, e, _⟩
      · have : zs = [] := by simpa using h
        subst this
        exact ⟨by have := hR.1; simpa using this.symm, rfl, rfl⟩
      · cases e
  rcases hcase with ⟨rfl, rfl, rfl⟩ | ⟨ad, rfl⟩
  · exact hfin _ w (by simpa using hO.2.1) (World.grownBy.refl w _) (run_append_of_nil w lo t ty E i 1 ht hi _ n _ hO.2.1 c)
  · have hcells : ∀ j u, (zs.map (Value.int k))[j]? = some u → w.cell? (ad.add j) = some u := by
      intro j u hu
      rcases hR.2 with h | ⟨b, off, e, hb, hc⟩
      · rw [h] at hu; simp at hu
      · obtain rfl := Option.some.inj e
        rw [Addr.add_lit]
        exact hc j u hu
    obtain ⟨v', w', hrun, h2, h3, _, _⟩ := run_append_own_at (P := P) w lo t ty E i (.int k z) 1 bytes ht hi hz hsize hby rfl (by omega) _ n _ hO.2.1 ad m c (zs.map (Value.int k)) (by rw [List.length_map, hR.1, Nat.mul_one]) hcells (ints_oneCell k zs) h63 hbytes hlo
    exact hfin v' w' h2 h3 hrun
theorem wp_append_rz {o : Oper} {a : Act} {K : Act → World → Prop} {Q : Exit → Act → World → Prop} (s x : Operand) (t : TypeId)
    (ho : o.op = .call { callee := .builtin .append, args := #[s, x], argTypes := #[t, t] })
    (k : IntKind) (E : TypeId) (i : TypeInfo) (z : Int) (bytes : Nat) (ht : P.underlying t = some (.slice E)) (hi : P.info? E = some i) (hz : i.zero = some (.int k z))
    (hsize : i.size = 1) (hby : i.bytes = bytes) (lo hi' : Nat) (A0 : Option Addr) (n c0 : Nat) (ys : List Int) (hs : a.eval s = .slice A0 n c0) (hO : Own k E lo hi' w A0 n c0 ys)
    (A : Option Addr) (m c : Nat) (zs : List Int) (hx : a.eval x = .slice A m c) (hR : Rz k w A m zs) (h63 : n + m ≤ maxLen) (hbytes : (n + m) * bytes ≤ 140737488355328) (hlo : lo ≤ w.heap.size)
    (h : ∀ A' c' w', Own k E lo w'.heap.size w' A' (n + m) c' (ys ++ zs) → Step lo hi' w w' → K (a.put o.dst (.slice A' (n + m) c')) w') : o.wp P a w K Q := by
  obtain ⟨A', c', w', hrun, h2, h3⟩ := run_append_rz (P := P) w k t o.type E i z bytes ht hi hz hsize hby lo hi' A0 n c0 ys hO A m c zs hR h63 hbytes hlo
  unfold Oper.wp execOp
  simp only [ho, resolve, invoke, builtin, Sem.run_bind, Sem.run_pure, Result.andThen_ok, List.map_toArray, List.map_cons, List.map_nil, hs, hx, hrun]
  exact h A' c' w' h2 h3
theorem wpList_append_rz {ops : Array Oper} {rest : List Oper} {o : Oper} {a : Act} {Q : Exit → Act → World → Prop} (hgd : o.guard = none) (s x : Operand) (t : TypeId)
    (ho : o.op = .call { callee := .builtin .append, args := #[s, x], argTypes := #[t, t] })
    (k : IntKind) (E : TypeId) (i : TypeInfo) (z : Int) (bytes : Nat) (ht : P.underlying t = some (.slice E)) (hi : P.info? E = some i) (hz : i.zero = some (.int k z))
    (hsize : i.size = 1) (hby : i.bytes = bytes) (lo hi' : Nat) (A0 : Option Addr) (n c0 : Nat) (ys : List Int) (hs : a.eval s = .slice A0 n c0) (hO : Own k E lo hi' w A0 n c0 ys)
    (A : Option Addr) (m c : Nat) (zs : List Int) (hx : a.eval x = .slice A m c) (hR : Rz k w A m zs) (h63 : n + m ≤ maxLen) (hbytes : (n + m) * bytes ≤ 140737488355328) (hlo : lo ≤ w.heap.size)
    (h : ∀ A' c' w', Own k E lo w'.heap.size w' A' (n + m) c' (ys ++ zs) → Step lo hi' w w' → wpList P ops Q rest (a.put o.dst (.slice A' (n + m) c')) w') : wpList P ops Q (o :: rest) a w :=
  wpList_plain hgd fun _ hK => wp_append_rz w s x t ho k E i z bytes ht hi hz hsize hby lo hi' A0 n c0 ys hs hO A m c zs hx hR h63 hbytes hlo fun A' c' w' h2 h3 => hK _ _ (h A' c' w' h2 h3)
end
end Go.Proofs.YthgcodbcafpmhaaDoor
