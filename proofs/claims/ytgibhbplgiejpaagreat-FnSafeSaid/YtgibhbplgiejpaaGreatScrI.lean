/- Of no program: a map from names to records, filled from a row of data; the operations on it, in a walk and in a region that draws.
   Scripts as plain functions of data, further: the first element that .., rows that are alike.
   The program's chapter 6: IsMethod (and the search for an instruction that is none).
   The program's chapter 6: names; the first element of a name. -/
import Derived.Test.YtgibhbplgiejpaaGreatSpecSA
import Derived.Maps.OwnSet
import Derived.Sort.KeysCollected
import Derived.Test.YtgibhbplgiejpaaGreatLibV
import Derived.Test.YtgibhbplgiejpaaGreatTyA
import Derived.Test.YtgibhbplgiejpaaGreatIsI
import Derived.Test.YtgibhbplgiejpaaGreatData
import Derived.Deep.RegionHeld3
namespace Go.Proofs.YtgibhbplgiejpaaGreat
open Go.RowKit Go.Maps Go.Sort
set_option linter.unusedVariables false
theorem bytes_inj {a b : ByteArray} (h : a.data.toList = b.data.toList) : a = b := by
  obtain ⟨⟨x⟩⟩ := a
  obtain ⟨⟨y⟩⟩ := b
  simp only at h
  subst h
  rfl
/-- A value stands in the map as it is. -/
def heldR (v : Value) : Option (DataW Value × List MemPlace) := some (.held v, [])
def nkey (d : Dat) : Lit := .string (nameOf d).data.toList
/-- The map after k rounds: its keys are the names so far; if none stands twice, each leads to its record. -/
def KeptD (V : Dat → Value → Prop) (L : List Dat) (k : Nat) (D : DataW Value) : Prop :=
  (∀ x : List UInt8, has D (.string x) = true ↔ ∃ (j : Nat) (d : Dat), j < k ∧ L[j]? = some d ∧ (nameOf d).data.toList = x) ∧
  ((Ap L k ∧ size D = k ∧ ∀ (j : Nat) (d : Dat), j < k → L[j]? = some d → ∃ v, V d v ∧ ∀ z, D.atKey (nkey d) z = .held v) ∨ (apart L = false ∧ size D < k))
theorem KeptD.start (V : Dat → Value → Prop) (L : List Dat) : KeptD V L 0 (.map []) := by
  refine ⟨fun x => ⟨fun h => by simp [has] at h, fun ⟨j, d, hj, _⟩ => by omega⟩, Or.inl ⟨Ap.zero L, rfl, fun j d hj => by omega⟩⟩
theorem KeptD.put {V : Dat → Value → Prop} {L : List Dat} {k : Nat} {D : DataW Value} {d : Dat} {v : Value} (h : KeptD V L k D) (hT : Tidy D) (hd : L[k]? = some d) (hv : V d v) : KeptD V L (k + 1) (D.put (nkey d) (.held v)) := by
  obtain ⟨h1, h2⟩ := h
  have hk : WideAt.IsKeyLit (nkey d) := trivial
  have hsz := size_put hT (k := nkey d) (.held v)
  refine ⟨fun x => ?_, ?_⟩
  · by_cases e : x = (nameOf d).data.toList
    · subst e
      rw [show (Lit.string (nameOf d).data.toList) = nkey d from rfl, has_put_same hT.isMap hk]
      exact ⟨fun _ => ⟨k, d, by omega, hd, rfl⟩, fun _ => rfl⟩
    · rw [has_put_other (by intro e2; exact e (Lit.string.inj e2)), h1 x]
      constructor
      · rintro ⟨j, d', hj, hd', hn⟩
        exact ⟨j, d', by omega, hd', hn⟩
      · rintro ⟨j, d', hj, hd', hn⟩
        have hjk : j ≠ k := by
          rintro rfl
          rw [hd] at hd'
          obtain rfl := Option.some.inj hd'
          exact e hn.symm
        exact ⟨j, d', by omega, hd', hn⟩
  · cases hh : has D (nkey d) with
    | true =>
      right
      rw [hh] at hsz
      obtain ⟨j, d', hj, hd', hn⟩ := (h1 _).1 hh
      refine ⟨apart_no hj hd' hd (bytes_inj hn), ?_⟩
      rw [hsz, if_pos rfl]
      rcases h2 with ⟨-, h2, -⟩ | ⟨-, h2⟩ <;> omega
    | false =>
      rw [hh] at hsz
      have hno : ∀ (j : Nat) (a : Dat), j < k → L[j]? = some a → ¬ nameOf a = nameOf d := fun j a hj ha e => by
        have : has D (nkey d) = true := (h1 _).2 ⟨j, a, hj, ha, by rw [e]⟩
        rw [hh] at this
        cases this
      rcases h2 with ⟨h2, h3, h4⟩ | ⟨h2, h3⟩
      · left
        refine ⟨h2.next hd hno, by rw [hsz, if_neg (by simp), h3], fun j a hj ha => ?_⟩
        by_cases e : j = k
        · subst e
          rw [hd] at ha
          obtain rfl := Option.some.inj ha
          exact ⟨v, hv, fun z => atKey_put_same hT.isMap hk _ _⟩
        · obtain ⟨u, hu, hat⟩ := h4 j a (by omega) ha
          refine ⟨u, hu, fun z => ?_⟩
          rw [atKey_put_other (by intro e2; exact hno j a (by omega) ha (bytes_inj (Lit.string.inj e2)))]
          exact hat z
      · right
        exact ⟨h2, by rw [hsz, if_neg (by simp)]; omega⟩
theorem KeptD.no {V : Dat → Value → Prop} {L : List Dat} {n : Nat} {D : DataW Value} (h : KeptD V L n D) (hn : L.length = n) (hs : size D ≠ n) : apart L = false := by
  rcases h.2 with ⟨-, h2, -⟩ | ⟨h2, -⟩
  · exact absurd h2 hs
  · exact h2
theorem KeptD.yes {V : Dat → Value → Prop} {L : List Dat} {n : Nat} {D : DataW Value} (h : KeptD V L n D) (hn : L.length = n) (hs : size D = n) : apart L = true ∧ ∀ (j : Nat) (d : Dat), L[j]? = some d → ∃ v, V d v ∧ ∀ z, D.atKey (nkey d) z = .held v := by
  rcases h.2 with ⟨h1, -, h3⟩ | ⟨-, h2⟩
  · exact ⟨h1.apart hn, fun j d hd => h3 j d (by have := (List.getElem?_eq_some_iff.1 hd).1; omega) hd⟩
  · omega
theorem KeptD.size_le {V : Dat → Value → Prop} {L : List Dat} {n : Nat} {D : DataW Value} (h : KeptD V L n D) : size D ≤ n := by
  rcases h.2 with ⟨-, h2, -⟩ | ⟨-, h2⟩ <;> omega
section
variable {P : Program} {K : TypeId} {R : Value → Option (DataW Value × List MemPlace)} {b n : Nat} {D : DataW Value}
theorem mem_strKeys {w : World} (h : w.ownsMap P K R b n D) (hk : P.underlying K = some .string) (x : List UInt8) : x ∈ strKeys D ↔ has D (.string x) = true := by
  obtain ⟨es, rfl, hes⟩ := h.keysOf
  have hk' : ∀ p ∈ es, ∃ x, p.1 = .string x := fun p hp => by
    obtain ⟨key, hkey⟩ := hes p hp
    obtain ⟨x, -, hx, -⟩ := Maps.keyOf_str hk hkey
    exact ⟨x, hx⟩
  rw [has_eq, List.any_eq_true]
  show x ∈ es.map (fun p => strOf p.1) ↔ _
  rw [List.mem_map]
  constructor
  · rintro ⟨p, hp', rfl⟩
    obtain ⟨a, ha⟩ := hk' p hp'
    exact ⟨p, hp', by rw [ha]; simp [Lit.sameKey, strOf]⟩
  · rintro ⟨p, hp', hs⟩
    obtain ⟨a, ha⟩ := hk' p hp'
    rw [ha] at hs
    exact ⟨p, hp', by rw [ha]; simpa [Lit.sameKey, strOf] using hs⟩
theorem ownsMap_below {w w' : World} (h : w.ownsMap P K R b n D) (hb : Below w.heap.size w w') : w'.ownsMap P K R b n D := by
  have hlt := h.lt
  obtain ⟨es, clock, h1, h2⟩ := h
  exact ⟨es, clock, (hb.block b hlt).trans h1, h2⟩
/-- A sorted row of the map's keys: what stands at each place. -/
theorem row_cells {w : World} {base E : Nat} {v : Value} {m : Nat} {xs : List Value} (h : w.ownsRow base E 1 v m xs) : ∃ A c, v = .slice A m c ∧ Rd w w.heap.size A xs := by
  have hlen := h.1
  rcases h.2 with ⟨rfl, hm⟩ | ⟨g, cap, cur, rfl, hb, hgg, h1, h2, h3, h4⟩
  · subst hm
    exact ⟨none, 0, rfl, Or.inl (List.eq_nil_of_length_eq_zero (by simpa using hlen))⟩
  · refine ⟨_, _, rfl, Or.inr ⟨g, 0, rfl, (Array.getElem?_eq_some_iff.1 hgg).1, fun j u hj => ?_⟩⟩
    rw [Nat.zero_add, cell_of_row w g j cur E (0, 0) hgg, ← hj, ← h4, List.getElem?_take]
    have hjl : j < m * 1 := by
      have := (List.getElem?_eq_some_iff.1 hj).1
      omega
    rw [if_pos hjl]
    simp
/-- 'm[k]' where the record at the key is known. -/
theorem wpList_lookup_held {w : World} {ops : Array Oper} {rest : List Oper} {o : Oper} {a : Act} {Q : Exit → Act → World → Prop} (hg : o.guard = none) (m x : Operand) (t : TypeId) (hop : o.op = Op.lookup t m x false)
    (e : TypeId) (hK : Keyed P K) (ht : P.underlying t = some (.map K e)) {z : Value} (hz : (zeroValue e).run P w = .ok z w) (hm : a.eval m = .map (some b)) (hown : w.ownsMap P K heldR b n D) (key : Value) (kl : Lit) (hx : a.eval x = key) (hkey : keyOf P K key = some kl)
    (v : Value) (hat : D.atKey kl (.held z) = .held v) (h : wpList P ops Q rest (a.put o.dst v) w) : wpList P ops Q (o :: rest) a w := by
  refine wpList_plain hg fun K' hK' => ?_
  obtain ⟨v', ps, hrun, hv⟩ := hown.lookup hK ht hz rfl hkey
  obtain rfl : v' = v := by
    rw [hat] at hv
    have := Option.some.inj hv
    exact DataW.held.inj (congrArg Prod.fst this)
  unfold Oper.wp
  simp [execOp, hop, hm, hx, hrun, Result.andThen]
  exact hK' _ _ h
/-- 'm[k] = v' at a step of a region that draws its order. -/
theorem step_mapUpdate_held {w : World} {ops : Array Oper} {o : Oper} {a : Act} {Q : Exit → Act → World → Prop} {Kc : Act → World → Prop} {X : Prop} (hgd : o.guard = none) (m x v : Operand) (t : TypeId) (hop : o.op = Op.mapUpdate t m x v)
    (e : TypeId) (hK : Keyed P K) (ht : P.underlying t = some (.map K e)) (hm : a.eval m = .map (some b)) (hown : w.ownsMap P K heldR b n D) (hn : n < maxLen) (key val : Value) (kl : Lit) (hx : a.eval x = key) (hv : a.eval v = val) (hkey : keyOf P K key = some kl)
    (h : ∀ w', w'.ownsMap P K heldR b (n + 1) (D.put kl (.held val)) → w.grownBy w' (some b) → Kc (a.put o.dst undef) w') : if Region.wanted o (yielded ops a.tmps) = true then Oper.wp P o a w Kc Q else X := by
  have hw : Region.wanted o (yielded ops a.tmps) = true := by simp [Region.wanted, hgd]
  rw [if_pos hw]
  obtain ⟨w', hrun, r1, r2⟩ := hown.update hK ht hn hkey (d := .held val) (ps := []) rfl
  unfold Oper.wp
  simp [execOp, hop, hm, hx, hv, hrun, Result.andThen]
  exact h w' r1 r2
end
end Go.Proofs.YtgibhbplgiejpaaGreat
namespace Go.Proofs.YtgibhbplgiejpaaGreat
open Go.RowKit
def idxFrom (p : Dat → Bool) : List Dat → Int → Int
  | [], _ => -1
  | d :: L, i => if p d then i else idxFrom p L (i + 1)
/-- The place of the first element that .., or -1. -/
def idx (p : Dat → Bool) (L : List Dat) : Int := idxFrom p L 0
theorem idxFrom_at {p : Dat → Bool} : ∀ {L : List Dat} {i : Nat} {k : Int} {d : Dat}, (∀ (j : Nat) (e : Dat), j < i → L[j]? = some e → p e = false) → L[i]? = some d → p d = true → idxFrom p L k = k + i
  | [], _, _, _, _, h, _ => by simp at h
  | x :: L, 0, k, d, _, h, hn => by
    obtain rfl : x = d := by simpa using h
    rw [idxFrom, if_pos hn]; simp
  | x :: L, i + 1, k, d, h0, h, hn => by
    rw [idxFrom, if_neg (by rw [h0 0 x (by omega) rfl]; simp), idxFrom_at (i := i) (fun j e hj he => h0 (j + 1) e (by omega) (by simpa using he)) (by simpa using h) hn]
    omega
theorem idxFrom_none {p : Dat → Bool} : ∀ {L : List Dat} {k : Int}, (∀ (j : Nat) (e : Dat), L[j]? = some e → p e = false) → idxFrom p L k = -1
  | [], _, _ => rfl
  | x :: L, k, h0 => by
    rw [idxFrom, if_neg (by rw [h0 0 x rfl]; simp)]
    exact idxFrom_none (fun j e he => h0 (j + 1) e (by simpa using he))
theorem idx_at {p : Dat → Bool} {L : List Dat} {i : Nat} {d : Dat} (h : ∀ (j : Nat) (e : Dat), j < i → L[j]? = some e → p e = false) (hd : L[i]? = some d) (hn : p d = true) : (i : Int) = idx p L := by
  rw [idx, idxFrom_at h hd hn]; simp
theorem idx_none {p : Dat → Bool} {L : List Dat} (h : ∀ (j : Nat) (e : Dat), L[j]? = some e → p e = false) : -1 = idx p L := (idxFrom_none h).symm
theorem idxFrom_cases (p : Dat → Bool) : ∀ (L : List Dat) (k : Int), (idxFrom p L k = -1 ∧ ∀ x ∈ L, p x = false) ∨ ∃ (i : Nat) (d : Dat), idxFrom p L k = k + i ∧ L[i]? = some d ∧ p d = true
  | [], _ => Or.inl ⟨rfl, fun x hx => by cases hx⟩
  | x :: L, k => by
    rw [idxFrom]
    cases h : p x with
    | true => exact Or.inr ⟨0, x, by simp, rfl, h⟩
    | false =>
      rw [if_neg (by simp)]
      rcases idxFrom_cases p L (k + 1) with ⟨h1, h2⟩ | ⟨i, d, h1, h2, h3⟩
      · refine Or.inl ⟨h1, fun y hy => ?_⟩
        rcases List.mem_cons.1 hy with rfl | hy
        · exact h
        · exact h2 y hy
      · exact Or.inr ⟨i + 1, d, by rw [h1]; omega, by simpa using h2, h3⟩
theorem idx_cases (p : Dat → Bool) (L : List Dat) : (idx p L = -1 ∧ ∀ x ∈ L, p x = false) ∨ ∃ (i : Nat) (d : Dat), idx p L = i ∧ L[i]? = some d ∧ p d = true ∧ i < L.length := by
  rcases idxFrom_cases p L 0 with h | ⟨i, d, h1, h2, h3⟩
  · exact Or.inl h
  · exact Or.inr ⟨i, d, by rw [idx, h1]; omega, h2, h3, (List.getElem?_eq_some_iff.1 h2).1⟩
theorem idx_any (p : Dat → Bool) (L : List Dat) : decide (0 ≤ idx p L) = L.any p := by
  rcases idx_cases p L with ⟨h, hn⟩ | ⟨i, d, h, hd, hp, hl⟩
  · rw [h]
    have : L.any p = false := by rw [List.any_eq_false]; intro x hx; rw [hn x hx]; simp
    rw [this]; rfl
  · rw [h]
    have : L.any p = true := List.any_eq_true.2 ⟨d, List.mem_of_getElem? hd, hp⟩
    rw [this]; exact decide_eq_true (by omega)
theorem any_not_all (p : Dat → Bool) (L : List Dat) : (!(L.any fun d => !p d)) = L.all p := by
  rw [List.any_eq_not_all_not]
  simp
def named (nm : ByteArray) (d : Dat) : Bool := decide (nameOf d = nm)
theorem findFrom_idx (nm : ByteArray) : ∀ (L : List Dat) (k : Int), findFrom L nm k = idxFrom (named nm) L k
  | [], _ => rfl
  | x :: L, k => by
    rw [findFrom, idxFrom, findFrom_idx nm L]
    by_cases h : nameOf x = nm
    · rw [if_pos h, if_pos (by simpa [named] using h)]
    · rw [if_neg h, if_neg (by simpa [named] using h)]
theorem find_idx (L : List Dat) (nm : ByteArray) : idx (named nm) L = find L nm := (findFrom_idx nm L 0).symm
/-- Two rows that are alike, place by place. -/
def sameL (p : Dat → Dat → Bool) : List Dat → List Dat → Bool
  | [], [] => true
  | a :: L, b :: M => p a b && sameL p L M
  | _, _ => false
theorem sameL_len {p : Dat → Dat → Bool} : ∀ {L M : List Dat}, L.length ≠ M.length → sameL p L M = false
  | [], [], h => absurd rfl h
  | [], _ :: _, _ => rfl
  | _ :: _, [], _ => rfl
  | a :: L, b :: M, h => by
    rw [sameL, sameL_len (by simpa using h), Bool.and_false]
theorem sameL_no {p : Dat → Dat → Bool} : ∀ {L M : List Dat} {i : Nat} {a b : Dat}, L[i]? = some a → M[i]? = some b → p a b = false → sameL p L M = false
  | [], _, _, _, _, h, _, _ => by simp at h
  | _ :: _, [], _, _, _, _, h, _ => by simp at h
  | x :: L, y :: M, 0, a, b, h1, h2, hp => by
    obtain rfl : x = a := by simpa using h1
    obtain rfl : y = b := by simpa using h2
    rw [sameL, hp, Bool.false_and]
  | x :: L, y :: M, i + 1, a, b, h1, h2, hp => by
    rw [sameL, sameL_no (i := i) (by simpa using h1) (by simpa using h2) hp, Bool.and_false]
theorem sameL_yes {p : Dat → Dat → Bool} : ∀ {L M : List Dat}, L.length = M.length → (∀ (i : Nat) (a b : Dat), L[i]? = some a → M[i]? = some b → p a b = true) → sameL p L M = true
  | [], [], _, _ => rfl
  | [], _ :: _, h, _ => by simp at h
  | _ :: _, [], h, _ => by simp at h
  | x :: L, y :: M, h, hp => by
    rw [sameL, hp 0 x y rfl rfl, sameL_yes (by simpa using h) (fun i a b h1 h2 => hp (i + 1) a b (by simpa using h1) (by simpa using h2)), Bool.and_true]
theorem sameL_comm {p : Dat → Dat → Bool} (hp : ∀ a b, p a b = p b a) : ∀ (L M : List Dat), sameL p L M = sameL p M L
  | [], [] => rfl
  | [], _ :: _ => rfl
  | _ :: _, [] => rfl
  | x :: L, y :: M => by rw [sameL, sameL, hp x y, sameL_comm hp L M]
theorem sameL_refl {p : Dat → Dat → Bool} (hp : ∀ a, p a a = true) : ∀ (L : List Dat), sameL p L L = true
  | [] => rfl
  | x :: L => by rw [sameL, hp x, sameL_refl hp L, Bool.and_true]
/-- The first i places are alike. -/
def Alike (p : Dat → Dat → Bool) (L M : List Dat) (i : Nat) : Prop := ∀ (j : Nat) (a b : Dat), j < i → L[j]? = some a → M[j]? = some b → p a b = true
theorem Alike.zero (p : Dat → Dat → Bool) (L M : List Dat) : Alike p L M 0 := fun j a b hj => by omega
theorem Alike.next {p : Dat → Dat → Bool} {L M : List Dat} {i : Nat} {a b : Dat} (h : Alike p L M i) (ha : L[i]? = some a) (hb : M[i]? = some b) (hp : p a b = true) : Alike p L M (i + 1) := fun j x y hj hx hy => by
  by_cases e : j = i
  · subst e
    rw [ha] at hx; rw [hb] at hy
    obtain rfl := Option.some.inj hx
    obtain rfl := Option.some.inj hy
    exact hp
  · exact h j x y (by omega) hx hy
theorem Alike.all {p : Dat → Dat → Bool} {L M : List Dat} {n : Nat} (h : Alike p L M n) (h1 : L.length = n) (h2 : M.length = n) : sameL p L M = true :=
  sameL_yes (by omega) fun i a b ha hb => h i a b (by have := (List.getElem?_eq_some_iff.1 ha).1; omega) ha hb
/-- Two instructions are equal. -/
def eqIns (x y : I) : Bool := decide (x.op = y.op) && decide (x.a = y.a) && decide (x.b = y.b) && decide (x.c = y.c) && decide (x.d = y.d) && decide (x.name = y.name)
def eqInsD (a b : Dat) : Bool := eqIns (insOf a) (insOf b)
def eqMethD (a b : Dat) : Bool := decide (nameOf a = nameOf b) && sameL eqInsD (codeOf a) (codeOf b)
def eqScrD (a b : Dat) : Bool := decide (nameOf a = nameOf b) && sameL eqMethD (codeOf a) (codeOf b)
theorem eqIns_comm (x y : I) : eqIns x y = eqIns y x := by
  unfold eqIns
  simp only [eq_comm]
theorem eqIns_refl (x : I) : eqIns x x = true := by simp [eqIns]
theorem eqMethD_comm (a b : Dat) : eqMethD a b = eqMethD b a := by
  rw [eqMethD, eqMethD, sameL_comm (p := eqInsD) (fun a b => eqIns_comm _ _)]
  simp only [eq_comm]
theorem eqMethD_refl (a : Dat) : eqMethD a a = true := by
  rw [eqMethD, sameL_refl (p := eqInsD) (fun a => eqIns_refl _)]
  simp
theorem eqScrD_comm (a b : Dat) : eqScrD a b = eqScrD b a := by
  rw [eqScrD, eqScrD, sameL_comm eqMethD_comm]
  simp only [eq_comm]
theorem eqScrD_refl (a : Dat) : eqScrD a a = true := by
  rw [eqScrD, sameL_refl eqMethD_refl]
  simp
end Go.Proofs.YtgibhbplgiejpaaGreat
namespace Go.Proofs.YtgibhbplgiejpaaGreat
open Go.RowKit
set_option linter.unusedVariables false
set_option linter.unusedSimpArgs false
theorem implIns (d : Dat) (f0 f1 f2 f3 f4 : Int) (f5 : ByteArray) (w : World) (hd : d = .r [.i f0, .i f1, .i f2, .i f3, .i f4, .s f5]) : Calls Tryz.prog 79 #[.agg #[.int .i64 f0, .int .i64 f1, .int .i64 f2, .int .i64 f3, .int .i64 f4, .string f5]] w (GivesBool (isInsD d) w) := by
  subst hd
  exact implIs ⟨f0, f1, f2, f3, f4, f5⟩ w
def noInsD (d : Dat) : Bool := !isInsD d
set_option maxHeartbeats 1000000 in
theorem noIns (d : Dat) (f0 f1 f2 f3 f4 : Int) (f5 : ByteArray) (w : World) (hd : d = .r [.i f0, .i f1, .i f2, .i f3, .i f4, .s f5]) : Calls Tryz.prog 43 #[.agg #[.int .i64 f0, .int .i64 f1, .int .i64 f2, .int .i64 f3, .int .i64 f4, .string f5]] w (GivesBool (noInsD d) w) := by
  have HD := Lib.hid hd
  clear hd
  have B0 : Hid (Below w.heap.size w (w.alloc (.cells #[.int .i64 f0, .int .i64 f1, .int .i64 f2, .int .i64 f3, .int .i64 f4, .string f5] 32))) := Lib.hid ((Below.refl _ _).alloc (Nat.le_refl _) _)
  go_enter Tryz.func43, Tryz.ntmps43
  go_wp2_with fail
  refine (implIns d f0 f1 f2 f3 f4 f5 _ HD.out).mono ?_
  rintro e w2 ⟨rfl, hb⟩
  have HB := Lib.hid (B0.out.trans (hb.mono B0.out.size))
  clear hb
  go_wp2_with fail
  go_ret
  exact GivesBool.of rfl HB.out
set_option maxHeartbeats 2000000 in
theorem idxIns (L : List Dat) (A : Option Addr) (n c : Nat) (w : World) (h : Lies w (.l L) [.slice A n c]) (ht : ∀ x ∈ L, Has tyInstr x) (hn : n ≤ 9223372036854775807) :
    Calls Tryz.prog 78 #[.slice A n c, .func (.func 43) #[] #[]] w (GivesInt (idx noInsD L) w) := by
  have H := Lib.hid h
  have HT := Lib.hid ht
  clear h ht
  go_enter Tryz.func78, Tryz.ntmps78
  go_wp2
  go_loopw [8] (fun iv wr => ∃ i : Nat, i ≤ n ∧ iv = .int .i64 i ∧ (∀ (j : Nat) (e : Dat), j < i → L[j]? = some e → noInsD e = false) ∧ Below w.heap.size w wr) (fun iv _ => n - (intOf iv).toNat)
  case atStart => exact ⟨0, Nat.zero_le _, rfl, fun j e hj => by omega, Below.refl _ _⟩
  case round =>
    obtain ⟨i, hin, rfl, hno, hb0⟩ := hrel
    have HNO := Lib.hid hno
    have HB := Lib.hid hb0
    clear hno hb0
    by_cases hlt : i < n
    · obtain ⟨b, off, d, xs, rfl, hbw, hzi, hlie, hlen, hcell⟩ := (H.out.below HB.out).elem (fun x hx => (HT.out x hx).width) hlt
      obtain ⟨f0, f1, f2, f3, f4, f5, hd, rfl, hf5⟩ := invInstr (HT.out d (List.mem_of_getElem? hzi)) hlie
      have r0 : wr.cell? ⟨b, off + i * 6, none⟩ = some (.int .i64 f0) := hcell 0 _ rfl
      have r1 : wr.cell? ⟨b, off + i * 6 + 1, none⟩ = some (.int .i64 f1) := hcell 1 _ rfl
      have r2 : wr.cell? ⟨b, off + i * 6 + 2, none⟩ = some (.int .i64 f2) := hcell 2 _ rfl
      have r3 : wr.cell? ⟨b, off + i * 6 + 3, none⟩ = some (.int .i64 f3) := hcell 3 _ rfl
      have r4 : wr.cell? ⟨b, off + i * 6 + 4, none⟩ = some (.int .i64 f4) := hcell 4 _ rfl
      have r5 : wr.cell? ⟨b, off + i * 6 + 5, none⟩ = some (.string f5) := hcell 5 _ rfl
      have HZ := Lib.hid hzi
      have HD := Lib.hid hd
      clear hzi hcell hlie hd
      obtain ⟨v, hv⟩ : ∃ v, noInsD d = v := ⟨_, rfl⟩
      have HV := Lib.hid hv
      clear hv
      cases v with
      | true =>
        have HN := Lib.hid (idx_at HNO.out HZ.out HV.out)
        go_wp2_with fail
        refine (noIns d f0 f1 f2 f3 f4 f5 _ HD.out).mono ?_
        rintro e w2 ⟨rfl, hb⟩
        rw [HV.out]
        have HB2 := Lib.hid (HB.out.trans (hb.mono HB.out.size))
        clear hb
        go_wp2_with fail
        go_ret
        exact GivesInt.ret HN.out HB2.out
      | false =>
        have HN : Hid (∀ (j : Nat) (e : Dat), j < i + 1 → L[j]? = some e → noInsD e = false) := Lib.hid (fun j e hj hje => by
          by_cases hji : j < i
          · exact HNO.out j e hji hje
          · obtain rfl : j = i := by omega
            rw [HZ.out] at hje
            obtain rfl := Option.some.inj hje
            exact HV.out)
        go_wp2_with fail
        refine (noIns d f0 f1 f2 f3 f4 f5 _ HD.out).mono ?_
        rintro e w2 ⟨rfl, hb⟩
        rw [HV.out]
        have HB2 := Lib.hid (HB.out.trans (hb.mono HB.out.size))
        clear hb
        go_wp2_with fail
        go_roundw
        case rel => exact ⟨i + 1, by omega, by go_num, HN.out, HB2.out⟩
        case measure => simp [intOf]; omega
    · have HE := Lib.hid (idx_none (p := noInsD) (L := L) (fun j e hje => HNO.out j e (by have h1 := H.out.count; have := (List.getElem?_eq_some_iff.1 hje).1; omega) hje))
      go_wp2
      go_ret
      exact GivesInt.ret HE.out HB.out
set_option maxHeartbeats 1000000 in
theorem anyNo (L : List Dat) (A : Option Addr) (n c : Nat) (w : World) (h : Lies w (.l L) [.slice A n c]) (ht : ∀ x ∈ L, Has tyInstr x) (hn : n ≤ 9223372036854775807) :
    Calls Tryz.prog 42 #[.slice A n c, .func (.func 43) #[] #[]] w (GivesBool (L.any noInsD) w) := by
  have HA := Lib.hid (idx_any noInsD L)
  obtain ⟨r, hr⟩ : ∃ r, idx noInsD L = r := ⟨_, rfl⟩
  have HR := Lib.hid hr
  clear hr
  go_enter Tryz.func42, Tryz.ntmps42
  go_wp2_with fail
  refine (idxIns L A n c _ h ht hn).mono ?_
  rintro e w2 ⟨rfl, hb⟩
  rw [HR.out]
  have HB := Lib.hid hb
  clear hb
  go_wp2_with fail
  go_ret
  exact GivesBool.of (by rw [← HA.out, HR.out]) HB.out
theorem meth_val (nm : ByteArray) (L : List Dat) : (isName nm && decide (L.length ≤ 12) && !(L.any noInsD)) = isMeth (.r [.s nm, .l L]) := by
  show _ = (L.all isInsD && isName nm && decide (L.length ≤ 12))
  have e : (!(L.any noInsD)) = L.all isInsD := any_not_all isInsD L
  rw [← e]
  cases isName nm <;> cases decide (L.length ≤ 12) <;> cases L.any noInsD <;> rfl
/-- The argument's box of two cells. -/
def Boxed2 (w : World) (x y : Value) (w' : World) : Prop := Box w.heap.size [x, y] w' ∧ Below w.heap.size w w'
theorem Boxed2.mk_ (w : World) (x y : Value) (T : TypeId) : Boxed2 w x y (w.alloc (.cells #[x, y] T)) := ⟨Box.new w #[x, y] T, (Below.refl _ _).alloc (Nat.le_refl _) _⟩
theorem Boxed2.below {w w' w2 : World} {x y : Value} (h : Boxed2 w x y w') (hb : Below w'.heap.size w' w2) : Boxed2 w x y w2 := ⟨h.1.below hb, h.2.trans (hb.mono h.2.size)⟩
theorem Boxed2.two {w w' : World} {x y : Value} (h : Boxed2 w x y w') : w'.cell? ⟨w.heap.size, 0, none⟩ = some x ∧ w'.cell? ⟨w.heap.size, 1, none⟩ = some y := ⟨h.1.2 0 _ rfl, h.1.2 1 _ rfl⟩
theorem Boxed2.drew {w w' : World} {x y : Value} (h : Boxed2 w x y w') : Boxed2 w x y w'.drew := ⟨h.1.drew, h.2.drew⟩
set_option maxHeartbeats 4000000 in
theorem implMeth (nm : ByteArray) (L : List Dat) (A : Option Addr) (n c : Nat) (w : World) (h : Lies w (.l L) [.slice A n c]) (ht : ∀ x ∈ L, Has tyInstr x) (hn : n ≤ 9223372036854775807) : Calls Tryz.prog 14 #[.agg #[.string nm, .slice A n c]] w (GivesBool (isMeth (.r [.s nm, .l L])) w) := by
  have X0 : Hid (Boxed2 w (.string nm) (.slice A n c) (w.alloc (.cells #[.string nm, .slice A n c] 26))) := Lib.hid (Boxed2.mk_ w _ _ _)
  have H := Lib.hid h
  have HT := Lib.hid ht
  have hc := h.count
  have HE := Lib.hid (meth_val nm L)
  clear h ht
  subst hc
  obtain ⟨v, hv⟩ : ∃ v, isName nm = v := ⟨_, rfl⟩
  have HV := Lib.hid hv
  clear hv
  cases v with
  | false =>
    go_enter Tryz.func14, Tryz.ntmps14
    go_wp2_with fail
    refine (implName nm _).mono ?_
    rintro e w2 ⟨rfl, hb⟩
    rw [HV.out]
    have X2 := Lib.hid (X0.out.below hb)
    clear hb X0
    go_wp2_with fail
    go_ret
    exact GivesBool.of (by rw [← HE.out, HV.out]; rfl) X2.out.2
  | true =>
    by_cases h12 : L.length ≤ 12
    · go_enter Tryz.func14, Tryz.ntmps14
      go_wp2_with fail
      refine (implName nm _).mono ?_
      rintro e w2 ⟨rfl, hb⟩
      rw [HV.out]
      have X2 := Lib.hid (X0.out.below hb)
      clear hb X0
      obtain ⟨q0, q1⟩ := X2.out.two
      go_wp2_with fail
      refine (anyNo L A L.length c _ (H.out.below X2.out.2) HT.out hn).mono ?_
      rintro e w3 ⟨rfl, hb⟩
      have X3 := Lib.hid (X2.out.below hb)
      clear hb q0 q1 X2
      go_wp2_with fail
      go_ret
      exact GivesBool.of (by rw [← HE.out, HV.out]; simp [h12]) X3.out.2
    · go_enter Tryz.func14, Tryz.ntmps14
      go_wp2_with fail
      refine (implName nm _).mono ?_
      rintro e w2 ⟨rfl, hb⟩
      rw [HV.out]
      have X2 := Lib.hid (X0.out.below hb)
      clear hb X0
      obtain ⟨q0, q1⟩ := X2.out.two
      go_wp2_with fail
      go_ret
      exact GivesBool.of (by rw [← HE.out, HV.out]; simp [h12]) X2.out.2
end Go.Proofs.YtgibhbplgiejpaaGreat
namespace Go.Proofs.YtgibhbplgiejpaaGreat
open Go.RowKit
set_option linter.unusedVariables false
set_option linter.unusedSimpArgs false
/-- The argument's box and the two captured variables. -/
def NSt (w : World) (f0 nm : ByteArray) (s : Value) (F : Value) (g1 g2 : Nat) (w' : World) : Prop := Box w.heap.size [.string f0, s] w' ∧ Box g1 [F] w' ∧ Box g2 [.string nm] w' ∧ Below w.heap.size w w'
section
variable {w w1 w2 : World} {f0 nm : ByteArray} {s F : Value} {g1 g2 : Nat}
theorem NSt.below (h : NSt w f0 nm s F g1 g2 w1) (hb : Below w1.heap.size w1 w2) : NSt w f0 nm s F g1 g2 w2 := ⟨h.1.below hb, h.2.1.below hb, h.2.2.1.below hb, h.2.2.2.trans (hb.mono h.2.2.2.size)⟩
theorem NSt.drew (h : NSt w f0 nm s F g1 g2 w1) : NSt w f0 nm s F g1 g2 w1.drew := h.below (Below.refl _ _).drew
theorem NSt.four (h : NSt w f0 nm s F g1 g2 w1) : w1.cell? ⟨w.heap.size, 0, none⟩ = some (.string f0) ∧ w1.cell? ⟨w.heap.size, 1, none⟩ = some s ∧ w1.cell? ⟨g1, 0, none⟩ = some F ∧ w1.cell? ⟨g2, 0, none⟩ = some (.string nm) :=
  ⟨h.1.2 0 _ rfl, h.1.2 1 _ rfl, h.2.1.2 0 _ rfl, h.2.2.1.2 0 _ rfl⟩
theorem NSt.mk_ (f0 : ByteArray) (s : Value) (T : TypeId) (h1 : Box g1 [F] w) (h2 : Box g2 [.string nm] w) : NSt w f0 nm s F g1 g2 (w.alloc (.cells #[.string f0, s] T)) :=
  ⟨Box.new w #[.string f0, s] T, h1.alloc _, h2.alloc _, (Below.refl _ _).alloc (Nat.le_refl _) _⟩
end
theorem named_yes {d : Dat} {nm : ByteArray} (h : nameOf d = nm) : true = named nm d := (decide_eq_true h).symm
theorem named_no {d : Dat} {nm : ByteArray} (h : ¬ nameOf d = nm) : false = named nm d := (decide_eq_false h).symm

set_option maxHeartbeats 1000000 in
theorem nameMethod (f0 : ByteArray) (A : Option Addr) (n c : Nat) (w : World) : Calls Tryz.prog 102 #[.agg #[.string f0, .slice A n c]] w (GivesT f0 w) := by
  go_enter Tryz.func102, Tryz.ntmps102
  go_wp2
  go_ret
  exact GivesT.ret rfl (by go_grown)
set_option maxHeartbeats 1000000 in
theorem nameScript (f0 : ByteArray) (A : Option Addr) (n c : Nat) (w : World) : Calls Tryz.prog 81 #[.agg #[.string f0, .slice A n c]] w (GivesT f0 w) := by
  go_enter Tryz.func81, Tryz.ntmps81
  go_wp2
  go_ret
  exact GivesT.ret rfl (by go_grown)
set_option maxHeartbeats 2000000 in
theorem hasNameScript (d : Dat) (f0 nm : ByteArray) (A : Option Addr) (n c g1 g2 : Nat) (w : World) (hd : nameOf d = f0) (h1 : Box g1 [.func (.func 81) #[] #[]] w) (h2 : Box g2 [.string nm] w) :
    Calls Tryz.prog 106 #[.agg #[.string f0, .slice A n c], .pointer (some ⟨g1, 0, none⟩), .pointer (some ⟨g2, 0, none⟩)] w (GivesBool (named nm d) w) := by
  have X0 := Lib.hid (NSt.mk_ f0 (.slice A n c) 37 h1 h2).drew
  clear h1 h2
  by_cases he : f0 = nm
  · subst he
    have HE := Lib.hid (named_yes hd)
    clear hd
    go_enter Tryz.func106, Tryz.ntmps106
    go_wp2_with fail
    go_region_held3 (fun w' => w'.cell? ⟨w.heap.size, 0, none⟩ = some (.string f0) ∧ w'.cell? ⟨w.heap.size, 1, none⟩ = some (.slice A n c) ∧ w'.cell? ⟨g1, 0, none⟩ = some (.func (.func 81) #[] #[]) ∧ w'.cell? ⟨g2, 0, none⟩ = some (.string f0))
      (first | with_reducible exact X0.out.four | with_reducible exact X1.out.four)
      ((go_at_call 81; (with_reducible refine (nameScript _ _ _ _ _).mono ?_); rintro e w5 ⟨rfl, hb5⟩; have X1 := Lib.hid (X0.out.below hb5); clear hb5))
    all_goals (
      go_wp2_with fail
      go_ret
      exact GivesBool.of (by first | exact HE.out | simpa using HE.out) X1.out.2.2.2)
  · have HE := Lib.hid (named_no (nm := nm) (d := d) (by rw [hd]; exact he))
    have he1 := bytes_ne he
    have he2 := bytes_neb he
    clear hd he
    go_enter Tryz.func106, Tryz.ntmps106
    go_wp2_with fail
    go_region_held3 (fun w' => w'.cell? ⟨w.heap.size, 0, none⟩ = some (.string f0) ∧ w'.cell? ⟨w.heap.size, 1, none⟩ = some (.slice A n c) ∧ w'.cell? ⟨g1, 0, none⟩ = some (.func (.func 81) #[] #[]) ∧ w'.cell? ⟨g2, 0, none⟩ = some (.string nm))
      (first | with_reducible exact X0.out.four | with_reducible exact X1.out.four)
      ((go_at_call 81; (with_reducible refine (nameScript _ _ _ _ _).mono ?_); rintro e w5 ⟨rfl, hb5⟩; have X1 := Lib.hid (X0.out.below hb5); clear hb5))
    all_goals (
      go_wp2_with fail
      go_ret
      exact GivesBool.of (by first | exact HE.out | simpa [he1, he2] using HE.out) X1.out.2.2.2)
set_option maxHeartbeats 2000000 in
theorem idxScript (L : List Dat) (A : Option Addr) (n c g1 g2 : Nat) (nm : ByteArray) (w : World) (h : Lies w (.l L) [.slice A n c]) (ht : ∀ x ∈ L, Has tyScript x) (hn : n ≤ 9223372036854775807) (h1 : Box g1 [.func (.func 81) #[] #[]] w) (h2 : Box g2 [.string nm] w) :
    Calls Tryz.prog 105 #[.slice A n c, .func (.func 106) #[] #[.pointer (some ⟨g1, 0, none⟩), .pointer (some ⟨g2, 0, none⟩)]] w (GivesInt (idx (named nm) L) w) := by
  have H := Lib.hid h
  have HT := Lib.hid ht
  have H1 := Lib.hid h1
  have H2 := Lib.hid h2
  clear h ht h1 h2
  go_enter Tryz.func105, Tryz.ntmps105
  go_wp2
  go_loopw [8] (fun iv wr => ∃ i : Nat, i ≤ n ∧ iv = .int .i64 i ∧ (∀ (j : Nat) (e : Dat), j < i → L[j]? = some e → named nm e = false) ∧ Below w.heap.size w wr) (fun iv _ => n - (intOf iv).toNat)
  case atStart => exact ⟨0, Nat.zero_le _, rfl, fun j e hj => by omega, Below.refl _ _⟩
  case round =>
    obtain ⟨i, hin, rfl, hno, hb0⟩ := hrel
    have HNO := Lib.hid hno
    have HB := Lib.hid hb0
    clear hno hb0
    by_cases hlt : i < n
    · obtain ⟨b, off, d, xs, rfl, hbw, hzi, hlie, hlen, hcell⟩ := (H.out.below HB.out).elem (fun x hx => (HT.out x hx).width) hlt
      obtain ⟨f0, L1, A1, n1, c1, hd, rfl, hf0, hl1, ht1, hm1⟩ := invScript (HT.out d (List.mem_of_getElem? hzi)) hlie
      have r0 : wr.cell? ⟨b, off + i * 2, none⟩ = some (.string f0) := hcell 0 _ rfl
      have r1 : wr.cell? ⟨b, off + i * 2 + 1, none⟩ = some (.slice A1 n1 c1) := hcell 1 _ rfl
      have HZ := Lib.hid hzi
      have HD : Hid (nameOf d = f0) := Lib.hid (by rw [hd]; rfl)
      clear hzi hcell hlie hd hl1 ht1
      obtain ⟨v, hv⟩ : ∃ v, named nm d = v := ⟨_, rfl⟩
      have HV := Lib.hid hv
      clear hv
      cases v with
      | true =>
        have HN := Lib.hid (idx_at HNO.out HZ.out HV.out)
        go_wp2_with fail
        refine (hasNameScript d f0 nm A1 n1 c1 g1 g2 _ HD.out (H1.out.below HB.out) (H2.out.below HB.out)).mono ?_
        rintro e w2 ⟨rfl, hb⟩
        rw [HV.out]
        have HB2 := Lib.hid (HB.out.trans (hb.mono HB.out.size))
        clear hb
        go_wp2_with fail
        go_ret
        exact GivesInt.ret HN.out HB2.out
      | false =>
        have HN : Hid (∀ (j : Nat) (e : Dat), j < i + 1 → L[j]? = some e → named nm e = false) := Lib.hid (fun j e hj hje => by
          by_cases hji : j < i
          · exact HNO.out j e hji hje
          · obtain rfl : j = i := by omega
            rw [HZ.out] at hje
            obtain rfl := Option.some.inj hje
            exact HV.out)
        go_wp2_with fail
        refine (hasNameScript d f0 nm A1 n1 c1 g1 g2 _ HD.out (H1.out.below HB.out) (H2.out.below HB.out)).mono ?_
        rintro e w2 ⟨rfl, hb⟩
        rw [HV.out]
        have HB2 := Lib.hid (HB.out.trans (hb.mono HB.out.size))
        clear hb
        go_wp2_with fail
        go_roundw
        case rel => exact ⟨i + 1, by omega, by go_num, HN.out, HB2.out⟩
        case measure => simp [intOf]; omega
    · have HE := Lib.hid (idx_none (p := named nm) (L := L) (fun j e hje => HNO.out j e (by have h1 := H.out.count; have := (List.getElem?_eq_some_iff.1 hje).1; omega) hje))
      go_wp2
      go_ret
      exact GivesInt.ret HE.out HB.out
set_option maxHeartbeats 1000000 in
theorem firstScript (L : List Dat) (A : Option Addr) (n c : Nat) (nm : ByteArray) (r : Int) (w : World) (h : Lies w (.l L) [.slice A n c]) (ht : ∀ x ∈ L, Has tyScript x) (hn : n ≤ 9223372036854775807) (hr : find L nm = r) :
    Calls Tryz.prog 85 #[.slice A n c, .func (.func 81) #[] #[], .string nm] w (GivesInt r w) := by
  have B0 : Hid (∀ o1 o2, Below w.heap.size w ((w.alloc o1).alloc o2)) := Lib.hid (fun o1 o2 => by go_grown)
  have C1 : Hid (∀ o1 T, Box (w.heap.size + 1) [.string nm] ((w.alloc o1).alloc (.cells #[.string nm] T))) := Lib.hid (fun o1 T => by have := Box.new (w.alloc o1) #[.string nm] T; rw [World.size_alloc] at this; exact this)
  have C0 : Hid (∀ o2 T, Box w.heap.size [.func (.func 81) #[] #[]] ((w.alloc (.cells #[.func (.func 81) #[] #[]] T)).alloc o2)) := Lib.hid (fun o2 T => (Box.new w #[.func (.func 81) #[] #[]] T).alloc o2)
  have H := Lib.hid h
  have HT := Lib.hid ht
  have HR : Hid (idx (named nm) L = r) := Lib.hid (by rw [find_idx]; exact hr)
  clear h ht hr
  go_enter Tryz.func85, Tryz.ntmps85
  go_wp2_with fail
  refine (idxScript L A n c w.heap.size (w.heap.size + 1) nm _ (H.out.below (B0.out _ _)) HT.out hn (C0.out _ _) (C1.out _ _)).mono ?_
  rintro e w2 ⟨rfl, hb⟩
  rw [HR.out]
  have HB := Lib.hid ((B0.out _ _).trans (hb.mono (B0.out _ _).size))
  clear hb
  go_wp2_with fail
  go_ret
  exact GivesInt.ret rfl HB.out

set_option maxHeartbeats 1000000 in
theorem implFind (L : List Dat) (A : Option Addr) (n c : Nat) (nm : ByteArray) (w : World) (h : Lies w (.l L) [.slice A n c]) (ht : ∀ x ∈ L, Has tyScript x) (hn : n ≤ 9223372036854775807) : Calls Tryz.prog 47 #[.slice A n c, .string nm] w (GivesInt (find L nm) w) := by
  go_enter Tryz.func47, Tryz.ntmps47
  go_wp2_with fail
  refine (firstScript L A n c nm _ _ h ht hn rfl).mono ?_
  rintro e w2 ⟨rfl, hb⟩
  have HB := Lib.hid hb
  clear hb
  go_wp2_with fail
  go_ret
  exact GivesInt.ret rfl HB.out
end Go.Proofs.YtgibhbplgiejpaaGreat
