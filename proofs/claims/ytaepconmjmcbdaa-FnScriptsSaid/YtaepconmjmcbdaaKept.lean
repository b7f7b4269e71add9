/- Of no program: a map from names to records, filled from a row of data; the operations on it, in a walk and in a region that draws. -/
import Derived.Test.YtaepconmjmcbdaaSpecS2
import Derived.Maps.OwnSet
import Derived.Sort.KeysCollected
namespace Go.Proofs.Ytaepconmjmcbdaa
open Go.RowKit Go.Maps Go.Sort
set_option linter.unusedVariables false
theorem bytes_inj {a b : ByteArray} (h : a.data.toList = b.data.toList) : a = b := by
  obtain ⟨⟨x⟩⟩ := a
  obtain ⟨⟨y⟩⟩ := b
  simp only at h
  subst h
  rfl
/-- A value stands in the map as it is. -/
def heldR (v : Value) : Option (DataW Value × List MemPlace) := some (.held v, [])
def nkey (d : Dat) : Lit := .string (nameOf d).data.toList
/-- The map after k rounds: its keys are the names so far; if none stands twice, each leads to its record. -/
def KeptD (V : Dat → Value → Prop) (L : List Dat) (k : Nat) (D : DataW Value) : Prop :=
  (∀ x : List UInt8, has D (.string x) = true ↔ ∃ (j : Nat) (d : Dat), j < k ∧ L[j]? = some d ∧ (nameOf d).data.toList = x) ∧
  ((Ap L k ∧ size D = k ∧ ∀ (j : Nat) (d : Dat), j < k → L[j]? = some d → ∃ v, V d v ∧ ∀ z, D.atKey (nkey d) z = .held v) ∨ (apart L = false ∧ size D < k))
theorem KeptD.start (V : Dat → Value → Prop) (L : List Dat) : KeptD V L 0 (.map []) := by
  refine ⟨fun x => ⟨fun h => by simp [has] at h, fun ⟨j, d, hj, _⟩ => by omega⟩, Or.inl ⟨Ap.zero L, rfl, fun j d hj => by omega⟩⟩
theorem KeptD.put {V : Dat → Value → Prop} {L : List Dat} {k : Nat} {D : DataW Value} {d : Dat} {v : Value} (h : KeptD V L k D) (hT : Tidy D) (hd : L[k]? = some d) (hv : V d v) : KeptD V L (k + 1) (D.put (nkey d) (.held v)) := by
  obtain ⟨h1, h2⟩ := h
  have hk : WideAt.IsKeyLit (nkey d) := trivial
  have hsz := size_put hT (k := nkey d) (.held v)
  refine ⟨fun x => ?_, ?_⟩
  · by_cases e : x = (nameOf d).data.toList
    · subst e
      rw [show (Lit.string (nameOf d).data.toList) = nkey d from rfl, has_put_same hT.isMap hk]
      exact ⟨fun _ => ⟨k, d, by omega, hd, rfl⟩, fun _ => rfl⟩
    · rw [has_put_other (by intro e2; exact e (Lit.string.inj e2)), h1 x]
      constructor
      · rintro ⟨j, d', hj, hd', hn⟩
        exact ⟨j, d', by omega, hd', hn⟩
      · rintro ⟨j, d', hj, hd', hn⟩
        have hjk : j ≠ k := by
          rintro rfl
          rw [hd] at hd'
          obtain rfl := Option.some.inj hd'
          exact e hn.symm
        exact ⟨j, d', by omega, hd', hn⟩
  · cases hh : has D (nkey d) with
    | true =>
      right
      rw [hh] at hsz
      obtain ⟨j, d', hj, hd', hn⟩ := (h1 _).1 hh
      refine ⟨apart_no hj hd' hd (bytes_inj hn), ?_⟩
      rw [hsz, if_pos rfl]
      rcases h2 with ⟨-, h2, -⟩ | ⟨-, h2⟩ <;> omega
    | false =>
      rw [hh] at hsz
      have hno : ∀ (j : Nat) (a : Dat), j < k → L[j]? = some a → ¬ nameOf a = nameOf d := fun j a hj ha e => by
        have : has D (nkey d) = true := (h1 _).2 ⟨j, a, hj, ha, by rw [e]⟩
        rw [hh] at this
        cases this
      rcases h2 with ⟨h2, h3, h4⟩ | ⟨h2, h3⟩
      · left
        refine ⟨h2.next hd hno, by rw [hsz, if_neg (by simp), h3], fun j a hj ha => ?_⟩
        by_cases e : j = k
        · subst e
          rw [hd] at ha
          obtain rfl := Option.some.inj ha
          exact ⟨v, hv, fun z => atKey_put_same hT.isMap hk _ _⟩
        · obtain ⟨u, hu, hat⟩ := h4 j a (by omega) ha
          refine ⟨u, hu, fun z => ?_⟩
          rw [atKey_put_other (by intro e2; exact hno j a (by omega) ha (bytes_inj (Lit.string.inj e2)))]
          exact hat z
      · right
        exact ⟨h2, by rw [hsz, if_neg (by simp)]; omega⟩
theorem KeptD.no {V : Dat → Value → Prop} {L : List Dat} {n : Nat} {D : DataW Value} (h : KeptD V L n D) (hn : L.length = n) (hs : size D ≠ n) : apart L = false := by
  rcases h.2 with ⟨-, h2, -⟩ | ⟨h2, -⟩
  · exact absurd h2 hs
  · exact h2
theorem KeptD.yes {V : Dat → Value → Prop} {L : List Dat} {n : Nat} {D : DataW Value} (h : KeptD V L n D) (hn : L.length = n) (hs : size D = n) : apart L = true ∧ ∀ (j : Nat) (d : Dat), L[j]? = some d → ∃ v, V d v ∧ ∀ z, D.atKey (nkey d) z = .held v := by
  rcases h.2 with ⟨h1, -, h3⟩ | ⟨-, h2⟩
  · exact ⟨h1.apart hn, fun j d hd => h3 j d (by have := (List.getElem?_eq_some_iff.1 hd).1; omega) hd⟩
  · omega
theorem KeptD.size_le {V : Dat → Value → Prop} {L : List Dat} {n : Nat} {D : DataW Value} (h : KeptD V L n D) : size D ≤ n := by
  rcases h.2 with ⟨-, h2, -⟩ | ⟨-, h2⟩ <;> omega
section
variable {P : Program} {K : TypeId} {R : Value → Option (DataW Value × List MemPlace)} {b n : Nat} {D : DataW Value}
theorem mem_strKeys {w : World} (h : w.ownsMap P K R b n D) (hk : P.underlying K = some .string) (x : List UInt8) : x ∈ strKeys D ↔ has D (.string x) = true := by
  obtain ⟨es, rfl, hes⟩ := h.keysOf
  have hk' : ∀ p ∈ es, ∃ x, p.1 = .string x := fun p hp => by
    obtain ⟨key, hkey⟩ := hes p hp
    obtain ⟨x, -, hx, -⟩ := Maps.keyOf_str hk hkey
    exact ⟨x, hx⟩
  rw [has_eq, List.any_eq_true]
  show x ∈ es.map (fun p => strOf p.1) ↔ _
  rw [List.mem_map]
  constructor
  · rintro ⟨p, hp', rfl⟩
    obtain ⟨a, ha⟩ := hk' p hp'
    exact ⟨p, hp', by rw [ha]; simp [Lit.sameKey, strOf]⟩
  · rintro ⟨p, hp', hs⟩
    obtain ⟨a, ha⟩ := hk' p hp'
    rw [ha] at hs
    exact ⟨p, hp', by rw [ha]; simpa [Lit.sameKey, strOf] using hs⟩
theorem ownsMap_below {w w' : World} (h : w.ownsMap P K R b n D) (hb : Below w.heap.size w w') : w'.ownsMap P K R b n D := by
  have hlt := h.lt
  obtain ⟨es, clock, h1, h2⟩ := h
  exact ⟨es, clock, (hb.block b hlt).trans h1, h2⟩
/-- A sorted row of the map's keys: what stands at each place. -/
theorem row_cells {w : World} {base E : Nat} {v : Value} {m : Nat} {xs : List Value} (h : w.ownsRow base E 1 v m xs) : ∃ A c, v = .slice A m c ∧ Rd w w.heap.size A xs := by
  have hlen := h.1
  rcases h.2 with ⟨rfl, hm⟩ | ⟨g, cap, cur, rfl, hb, hgg, h1, h2, h3, h4⟩
  · subst hm
    exact ⟨none, 0, rfl, Or.inl (List.eq_nil_of_length_eq_zero (by simpa using hlen))⟩
  · refine ⟨_, _, rfl, Or.inr ⟨g, 0, rfl, (Array.getElem?_eq_some_iff.1 hgg).1, fun j u hj => ?_⟩⟩
    rw [Nat.zero_add, cell_of_row w g j cur E (0, 0) hgg, ← hj, ← h4, List.getElem?_take]
    have hjl : j < m * 1 := by
      have := (List.getElem?_eq_some_iff.1 hj).1
      omega
    rw [if_pos hjl]
    simp
/-- 'm[k]' where the record at the key is known. -/
theorem wpList_lookup_held {w : World} {ops : Array Oper} {rest : List Oper} {o : Oper} {a : Act} {Q : Exit → Act → World → Prop} (hg : o.guard = none) (m x : Operand) (t : TypeId) (hop : o.op = Op.lookup t m x false)
    (e : TypeId) (hK : Keyed P K) (ht : P.underlying t = some (.map K e)) {z : Value} (hz : (zeroValue e).run P w = .ok z w) (hm : a.eval m = .map (some b)) (hown : w.ownsMap P K heldR b n D) (key : Value) (kl : Lit) (hx : a.eval x = key) (hkey : keyOf P K key = some kl)
    (v : Value) (hat : D.atKey kl (.held z) = .held v) (h : wpList P ops Q rest (a.put o.dst v) w) : wpList P ops Q (o :: rest) a w := by
  refine wpList_plain hg fun K' hK' => ?_
  obtain ⟨v', ps, hrun, hv⟩ := hown.lookup hK ht hz rfl hkey
  obtain rfl : v' = v := by
    rw [hat] at hv
    have := Option.some.inj hv
    exact DataW.held.inj (congrArg Prod.fst this)
  unfold Oper.wp
  simp [execOp, hop, hm, hx, hrun, Result.andThen]
  exact hK' _ _ h
/-- 'm[k] = v' at a step of a region that draws its order. -/
theorem step_mapUpdate_held {w : World} {ops : Array Oper} {o : Oper} {a : Act} {Q : Exit → Act → World → Prop} {Kc : Act → World → Prop} {X : Prop} (hgd : o.guard = none) (m x v : Operand) (t : TypeId) (hop : o.op = Op.mapUpdate t m x v)
    (e : TypeId) (hK : Keyed P K) (ht : P.underlying t = some (.map K e)) (hm : a.eval m = .map (some b)) (hown : w.ownsMap P K heldR b n D) (hn : n < maxLen) (key val : Value) (kl : Lit) (hx : a.eval x = key) (hv : a.eval v = val) (hkey : keyOf P K key = some kl)
    (h : ∀ w', w'.ownsMap P K heldR b (n + 1) (D.put kl (.held val)) → w.grownBy w' (some b) → Kc (a.put o.dst undef) w') : if Region.wanted o (yielded ops a.tmps) = true then Oper.wp P o a w Kc Q else X := by
  have hw : Region.wanted o (yielded ops a.tmps) = true := by simp [Region.wanted, hgd]
  rw [if_pos hw]
  obtain ⟨w', hrun, r1, r2⟩ := hown.update hK ht hn hkey (d := .held val) (ps := []) rfl
  unfold Oper.wp
  simp [execOp, hop, hm, hx, hv, hrun, Result.andThen]
  exact h w' r1 r2
end
end Go.Proofs.Ytaepconmjmcbdaa
