/- Of no program: 'append' onto a slice of nested data that the call owns. -/
import Derived.Test.YthgcodbcafpmhaaDoorDatMake
namespace Go.Proofs.YthgcodbcafpmhaaDoor
open Go.RowKit
theorem OwnsAll.append {w : World} : ∀ {L L2 : List Dat} {xs ys : List Value} {B B2 : Nat → Prop}, OwnsAll w L xs B → OwnsAll w L2 ys B2 → (∀ b, B b → ¬ B2 b) → OwnsAll w (L ++ L2) (xs ++ ys) (fun b => B b ∨ B2 b)
  | [], L2, xs, ys, B, B2, h, h2, _ => by
    rw [OwnsAll] at h
    subst h
    exact h2.mono (fun b hb => Or.inr hb)
  | d :: L, L2, xs, ys, B, B2, h, h2, hd => by
    rw [OwnsAll] at h
    obtain ⟨c1, c2, B1, Br, rfl, g1, g2, g3, g4, g5⟩ := h
    rw [List.cons_append, OwnsAll]
    refine ⟨c1, c2 ++ ys, B1, (fun b => Br b ∨ B2 b), List.append_assoc _ _ _, fun b hb => Or.inl (g1 b hb), fun b hb => ?_, fun b hb hr => ?_, g4, OwnsAll.append g5 h2 (fun b hb => hd b (g2 b hb))⟩
    · rcases hb with hb | hb
      · exact Or.inl (g2 b hb)
      · exact Or.inr hb
    · rcases hr with hr | hr
      · exact g3 b hb hr
      · exact hd b (g1 b hb) hr
mutual
theorem Owns.one : ∀ {w : World} {d : Dat} {cs : List Value} {B : Nat → Prop}, Owns w d cs B → ∀ u ∈ cs, u.oneCell' = true
  | _, .i _, _, _, h, u, hu => by rw [Owns] at h; subst h; rw [List.mem_singleton.1 hu]; rfl
  | _, .s _, _, _, h, u, hu => by rw [Owns] at h; subst h; rw [List.mem_singleton.1 hu]; rfl
  | _, .b _, _, _, h, u, hu => by rw [Owns] at h; subst h; rw [List.mem_singleton.1 hu]; rfl
  | _, .r ds, _, _, h, u, hu => by rw [Owns] at h; exact OwnsAll.one h u hu
  | _, .l ds, _, _, h, u, hu => by rw [Owns] at h; obtain ⟨A, n, c, rfl, -⟩ := h; rw [List.mem_singleton.1 hu]; rfl
theorem OwnsAll.one : ∀ {w : World} {ds : List Dat} {cs : List Value} {B : Nat → Prop}, OwnsAll w ds cs B → ∀ u ∈ cs, u.oneCell' = true
  | _, [], _, _, h, u, hu => by rw [OwnsAll] at h; subst h; cases hu
  | _, d :: ds, _, _, h, u, hu => by
    rw [OwnsAll] at h
    obtain ⟨c1, c2, B1, B2, rfl, -, -, -, g4, g5⟩ := h
    rcases List.mem_append.1 hu with hu | hu
    · exact Owns.one g4 u hu
    · exact OwnsAll.one g5 u hu
end
/-- A slice that grows: its row is the call's own, its elements are owned in blocks of B, none of them the row's. -/
def Grow (E : TypeId) (k lo : Nat) (w : World) (A : Option Addr) (n c : Nat) (L : List Dat) (B : Nat → Prop) : Prop :=
  ∃ xs, w.ownsRow lo E k (.slice A n c) n xs ∧ OwnsAll w L xs B ∧ L.length = n ∧ (∀ x ∈ L, x.width = k) ∧ (∀ a, A = some a → ¬ B a.block ∧ a.block < w.heap.size) ∧ ∀ b, B b → b < w.heap.size
section
variable {E : TypeId} {k lo : Nat} {w w' : World} {A : Option Addr} {n c : Nat} {L : List Dat} {B : Nat → Prop}
theorem Grow.nil (E : TypeId) (k lo : Nat) (w : World) : Grow E k lo w none 0 0 [] (fun _ => False) :=
  ⟨[], World.ownsRow_nil w lo E k, (by rw [OwnsAll]), rfl, (fun x hx => by cases hx), (fun a e => by cases e), (fun b hb => hb.elim)⟩
theorem Grow.own (h : Grow E k lo w A n c L B) : ∀ g, (Value.slice A n c).ownBlock = some g → lo ≤ g ∧ g < w.heap.size ∧ ¬ B g := by
  obtain ⟨xs, h1, -, -, -, h5, -⟩ := h
  intro g hg
  cases A with
  | none => simp [Value.ownBlock] at hg
  | some a =>
    have hl := (h1.lt g hg).1
    simp [Value.ownBlock] at hg
    subst hg
    exact ⟨hl, (h5 a rfl).2, (h5 a rfl).1⟩
theorem Grow.touch {S : Nat → Prop} (h : Grow E k lo w A n c L B) (ht : Touch S w w') (hA : ∀ a, A = some a → ¬ S a.block) (hB : ∀ b, B b → ¬ S b) : Grow E k lo w' A n c L B := by
  obtain ⟨xs, h1, h2, h3, h4, h5, h6⟩ := h
  refine ⟨xs, ⟨h1.1, ?_⟩, h2.same (fun b hb hlt => ht.block b hlt (hB b hb)), h3, h4, fun a e => ⟨(h5 a e).1, Nat.lt_of_lt_of_le (h5 a e).2 ht.size⟩, fun b hb => Nat.lt_of_lt_of_le (h6 b hb) ht.size⟩
  rcases h1.2 with hn | ⟨g, cap, cur, hv, hb, hgg, rest⟩
  · exact .inl hn
  · have hAe : A = some ⟨g, 0, none⟩ := by injection hv
    exact .inr ⟨g, cap, cur, hv, hb, (ht.block g (Array.getElem?_eq_some_iff.1 hgg).1 (hA _ hAe)).trans hgg, rest⟩
theorem Grow.below (h : Grow E k lo w A n c L B) (hb : Below w.heap.size w w') : Grow E k lo w' A n c L B := h.touch (S := fun _ => False) (Touch.of_below hb) (fun _ _ h => h) (fun _ _ h => h)
/-- It is owned data. -/
theorem Grow.owns (h : Grow E k lo w A n c L B) : Owns w (.l L) [.slice A n c] (fun b => (∃ a, A = some a ∧ b = a.block) ∨ B b) := by
  obtain ⟨xs, h1, h2, h3, h4, h5, h6⟩ := h
  rw [Owns]
  refine ⟨A, n, c, rfl, h3, ?_⟩
  rcases h1.2 with ⟨-, hn⟩ | ⟨g, cap, cur, hv, hb, hgg, hnc, hcm, hcs, htk⟩
  · exact Or.inl (List.eq_nil_of_length_eq_zero (by omega))
  · have hAe : A = some ⟨g, 0, none⟩ := by injection hv
    have hW : widthAll L = n * k := by rw [widthAll_of h4, h3]
    refine Or.inr ⟨g, E, cur, B, hAe, Or.inl ⟨_, hAe, rfl⟩, fun b hb => ⟨Or.inr hb, fun e => (h5 _ hAe).1 (by show B g; rw [← e]; exact hb)⟩, hgg, ?_, ?_⟩
    · rw [hW, hcs]; exact Nat.mul_le_mul_right _ hnc
    · rw [hW, htk]; exact h2
end
/-- What is appended: its cells, and what they own. -/
def Src (k : Nat) (w : World) (A : Option Addr) (m : Nat) (L : List Dat) (B : Nat → Prop) : Prop :=
  ∃ xs, Rd w w.heap.size A xs ∧ OwnsAll w L xs B ∧ L.length = m ∧ (∀ x ∈ L, x.width = k) ∧ ∀ b, B b → b < w.heap.size
theorem Src.lit {w : World} {k : Nat} {d : Dat} {xs : List Value} {C : Array Value} {B : Nat → Prop} {E : TypeId} (hC : C.toList = xs) (ho : Owns w d xs B) (hw : d.width = k) (hB : ∀ b, B b → b < w.heap.size) : Src k (w.alloc (.cells C E)) (some ⟨w.heap.size, 0, none⟩) 1 [d] B := by
  have hb : Below w.heap.size w (w.alloc (.cells C E)) := (Below.refl _ _).alloc (Nat.le_refl _) _
  refine ⟨xs, Or.inr ⟨w.heap.size, 0, rfl, by simp, fun j v hj => ?_⟩, ?_, rfl, fun x hx => by rw [List.mem_singleton.1 hx]; exact hw, fun b h => Nat.lt_of_lt_of_le (hB b h) hb.size⟩
  · rw [Nat.zero_add, cell_of_row _ w.heap.size j C E (0, 0) (by show (w.heap.push _)[w.heap.size]? = _; simp)]
    subst hC
    simpa using hj
  · rw [OwnsAll]
    exact ⟨xs, [], B, (fun _ => False), (List.append_nil _).symm, fun b h => h, fun b h => h.elim, fun b _ h => h, ho.below hb, by rw [OwnsAll]⟩
section
variable {P : Program} (w : World)
theorem run_append_dat (k : Nat) (hk : 0 < k) (t ty E : TypeId) (i : TypeInfo) (z : Value) (bytes : Nat) (ht : P.underlying t = some (.slice E)) (hi : P.info? E = some i) (hz : i.zero = some z)
    (hsize : i.size = k) (hzs : z.cells.size = k) (hby : i.bytes = bytes) (lo : Nat) (A0 : Option Addr) (n c0 : Nat) (L : List Dat) (B : Nat → Prop) (hO : Grow E k lo w A0 n c0 L B)
    (A : Option Addr) (m c : Nat) (L2 : List Dat) (B2 : Nat → Prop) (hR : Src k w A m L2 B2) (hd : ∀ b, B b → ¬ B2 b) (hd2 : ∀ a, A0 = some a → ¬ B2 a.block) (h63 : n + m ≤ maxLen) (hbytes : (n + m) * bytes ≤ 140737488355328) (hlo : lo ≤ w.heap.size) :
    ∃ A' c' w', (Builtin.append_ #[t, t] ty #[.slice A0 n c0, .slice A m c]).run P w = .ok (.slice A' (n + m) c') w' ∧ Grow E k lo w' A' (n + m) c' (L ++ L2) (fun b => B b ∨ B2 b) ∧ Touch (fun b => ∃ a, A0 = some a ∧ b = a.block) w w' ∧ (∀ a, A' = some a → A0 = some a ∨ w.heap.size ≤ a.block) := by
  have hown := hO.own
  obtain ⟨xs, g1, g2, g3, g4, g5, g6⟩ := hO
  obtain ⟨ys, s1, s2, s3, s4, s5⟩ := hR
  have hyl : ys.length = m * k := by rw [s2.lies.len, widthAll_of s4, s3]
  have hfin : ∀ v' w', w'.ownsRow lo E k v' (n + m) (xs ++ ys) → w.grownBy w' (Value.slice A0 n c0).ownBlock → (∀ g, v'.ownBlock = some g → (Value.slice A0 n c0).ownBlock = some g ∨ w.heap.size ≤ g) →
      (Builtin.append_ #[t, t] ty #[.slice A0 n c0, .slice A m c]).run P w = .ok v' w' →
      ∃ A' c' w', (Builtin.append_ #[t, t] ty #[.slice A0 n c0, .slice A m c]).run P w = .ok (.slice A' (n + m) c') w' ∧ Grow E k lo w' A' (n + m) c' (L ++ L2) (fun b => B b ∨ B2 b) ∧ Touch (fun b => ∃ a, A0 = some a ∧ b = a.block) w w' ∧ (∀ a, A' = some a → A0 = some a ∨ w.heap.size ≤ a.block) := by
    intro v' w' h1 h2 h3 h4
    have ht : Touch (fun b => ∃ a, A0 = some a ∧ b = a.block) w w' := ⟨h2.os, h2.tape, h2.output, h2.size, fun k hk hn => h2.block k hk (fun e => hn (by
      cases A0 with
      | none => simp [Value.ownBlock] at e
      | some a => simp [Value.ownBlock] at e; exact ⟨a, rfl, e⟩))⟩
    have hform : ∃ A' c', v' = .slice A' (n + m) c' := by
      rcases h1.2 with ⟨rfl, e⟩ | ⟨g, cap, cur, rfl, -⟩
      · exact ⟨none, 0, by rw [e]⟩
      · exact ⟨_, _, rfl⟩
    obtain ⟨A', c', rfl⟩ := hform
    have hA' : ∀ a, A' = some a → A0 = some a ∨ w.heap.size ≤ a.block := by
      intro a e
      subst e
      rcases h3 a.block (by simp [Value.ownBlock]) with e | e
      · left
        cases A0 with
        | none => simp [Value.ownBlock] at e
        | some a0 =>
          simp [Value.ownBlock] at e
          rcases g1.2 with ⟨hv, -⟩ | ⟨g, cap, cur, hv, -⟩
          · injection hv with hv; cases hv
          · injection hv with hv
            rcases h1.2 with ⟨hv', -⟩ | ⟨g', cap', cur', hv', -⟩
            · injection hv' with hv'; cases hv'
            · injection hv' with hv'
              injection hv with hv
              injection hv' with hv'
              subst hv hv'
              simp only at e
              rw [e]
      · exact Or.inr e
    have hlt : ∀ a, A' = some a → a.block < w'.heap.size := by
      intro a e
      subst e
      rcases h1.2 with ⟨hv, -⟩ | ⟨g, cap, cur, hv, -, hgg, -⟩
      · injection hv with hv; cases hv
      · injection hv with hv
        injection hv with hv
        subst hv
        exact (Array.getElem?_eq_some_iff.1 hgg).1
    refine ⟨A', c', w', h4, ⟨xs ++ ys, h1, (g2.append s2 hd).same (fun b hb hlt' => ht.block b hlt' ?_), by rw [List.length_append, g3, s3], fun x hx => ?_, fun a e => ⟨fun hb => ?_, hlt a e⟩, fun b hb => ?_⟩, ht, hA'⟩
    · rintro ⟨a, e, rfl⟩
      rcases hb with hb | hb
      · exact (g5 a e).1 hb
      · exact hd2 a e hb
    · rcases List.mem_append.1 hx with hx | hx
      · exact g4 x hx
      · exact s4 x hx
    · rcases hA' a e with e' | e'
      · rcases hb with hb | hb
        · exact (g5 a e').1 hb
        · exact hd2 a e' hb
      · rcases hb with hb | hb
        · have := g6 _ hb; omega
        · have := s5 _ hb; omega
    · rcases hb with hb | hb
      · exact Nat.lt_of_lt_of_le (g6 b hb) ht.size
      · exact Nat.lt_of_lt_of_le (s5 b hb) ht.size
  have hcase : (m = 0 ∧ ys = [] ∧ A = none) ∨ ∃ ad, A = some ad := by
    cases A with
    | some ad => exact Or.inr ⟨ad, rfl⟩
    | none =>
      left
      rcases s1 with h | ⟨b, off, e, _⟩
      · subst h
        have h0 : m * k = 0 := by simpa using hyl.symm
        rcases Nat.mul_eq_zero.1 h0 with h1 | h1
        · exact ⟨h1, rfl, rfl⟩
        · omega
      · cases e
  rcases hcase with ⟨rfl, rfl, rfl⟩ | ⟨ad, rfl⟩
  · exact hfin _ w (by simpa using g1) (World.grownBy.refl w _) (fun g hg => Or.inl (by simpa [Value.ownBlock] using hg)) (run_append_of_nil w lo t ty E i k ht hi _ n _ g1 c)
  · have hcells : ∀ j u, ys[j]? = some u → w.cell? (ad.add j) = some u := by
      intro j u hu
      rcases s1 with h | ⟨b, off, e, hb, hc⟩
      · rw [h] at hu; simp at hu
      · obtain rfl := Option.some.inj e
        rw [Addr.add_lit]
        exact hc j u hu
    obtain ⟨v', w', hrun, h2, h3, h4, h5⟩ := run_append_own_at (P := P) w lo t ty E i z k bytes ht hi hz hsize hby hzs hk _ n _ g1 ad m c ys hyl hcells s2.one h63 hbytes hlo
    exact hfin v' w' h2 h3 (fun g hg => by
      rcases h5 with e | e
      · exact Or.inl (by rw [← e]; exact hg)
      · rw [e] at hg
        exact Or.inr (Nat.le_of_eq (Option.some.inj hg))) hrun
theorem wp_append_dat {o : Oper} {a : Act} {K : Act → World → Prop} {Q : Exit → Act → World → Prop} (s x : Operand) (t : TypeId)
    (ho : o.op = .call { callee := .builtin .append, args := #[s, x], argTypes := #[t, t] }) (k : Nat) (hk : 0 < k)
    (E : TypeId) (i : TypeInfo) (z : Value) (bytes : Nat) (ht : P.underlying t = some (.slice E)) (hi : P.info? E = some i) (hz : i.zero = some z)
    (hsize : i.size = k) (hzs : z.cells.size = k) (hby : i.bytes = bytes) (lo : Nat) (A0 : Option Addr) (n c0 : Nat) (L : List Dat) (B : Nat → Prop) (hs : a.eval s = .slice A0 n c0) (hO : Grow E k lo w A0 n c0 L B)
    (A : Option Addr) (m c : Nat) (L2 : List Dat) (B2 : Nat → Prop) (hx : a.eval x = .slice A m c) (hR : Src k w A m L2 B2) (hd : ∀ b, B b → ¬ B2 b) (hd2 : ∀ a, A0 = some a → ¬ B2 a.block) (h63 : n + m ≤ maxLen) (hbytes : (n + m) * bytes ≤ 140737488355328) (hlo : lo ≤ w.heap.size)
    (h : ∀ A' c' w', Grow E k lo w' A' (n + m) c' (L ++ L2) (fun b => B b ∨ B2 b) → Touch (fun b => ∃ a, A0 = some a ∧ b = a.block) w w' → (∀ a, A' = some a → A0 = some a ∨ w.heap.size ≤ a.block) → K (a.put o.dst (.slice A' (n + m) c')) w') : o.wp P a w K Q := by
  obtain ⟨A', c', w', hrun, h2, h3, h4⟩ := run_append_dat (P := P) w k hk t o.type E i z bytes ht hi hz hsize hzs hby lo A0 n c0 L B hO A m c L2 B2 hR hd hd2 h63 hbytes hlo
  unfold Oper.wp execOp
  simp only [ho, resolve, invoke, builtin, Sem.run_bind, Sem.run_pure, Result.andThen_ok, List.map_toArray, List.map_cons, List.map_nil, hs, hx, hrun]
  exact h A' c' w' h2 h3 h4
theorem wpList_append_dat {ops : Array Oper} {rest : List Oper} {o : Oper} {a : Act} {Q : Exit → Act → World → Prop} (hgd : o.guard = none) (s x : Operand) (t : TypeId)
    (ho : o.op = .call { callee := .builtin .append, args := #[s, x], argTypes := #[t, t] }) (k : Nat) (hk : 0 < k)
    (E : TypeId) (i : TypeInfo) (z : Value) (bytes : Nat) (ht : P.underlying t = some (.slice E)) (hi : P.info? E = some i) (hz : i.zero = some z)
    (hsize : i.size = k) (hzs : z.cells.size = k) (hby : i.bytes = bytes) (lo : Nat) (A0 : Option Addr) (n c0 : Nat) (L : List Dat) (B : Nat → Prop) (hs : a.eval s = .slice A0 n c0) (hO : Grow E k lo w A0 n c0 L B)
    (A : Option Addr) (m c : Nat) (L2 : List Dat) (B2 : Nat → Prop) (hx : a.eval x = .slice A m c) (hR : Src k w A m L2 B2) (hd : ∀ b, B b → ¬ B2 b) (hd2 : ∀ a, A0 = some a → ¬ B2 a.block) (h63 : n + m ≤ maxLen) (hbytes : (n + m) * bytes ≤ 140737488355328) (hlo : lo ≤ w.heap.size)
    (h : ∀ A' c' w', Grow E k lo w' A' (n + m) c' (L ++ L2) (fun b => B b ∨ B2 b) → Touch (fun b => ∃ a, A0 = some a ∧ b = a.block) w w' → (∀ a, A' = some a → A0 = some a ∨ w.heap.size ≤ a.block) → wpList P ops Q rest (a.put o.dst (.slice A' (n + m) c')) w') : wpList P ops Q (o :: rest) a w :=
  wpList_plain hgd fun _ hK => wp_append_dat w s x t ho k hk E i z bytes ht hi hz hsize hzs hby lo A0 n c0 L B hs hO A m c L2 B2 hx hR hd hd2 h63 hbytes hlo fun A' c' w' h2 h3 h4 => hK _ _ (h A' c' w' h2 h3 h4)
/-- At a step of a region that draws its order. -/
theorem step_append_dat {ops : Array Oper} {o : Oper} {a : Act} {K : Act → World → Prop} {Q : Exit → Act → World → Prop} {X : Prop} (hgd : o.guard = none) (s x : Operand) (t : TypeId)
    (ho : o.op = .call { callee := .builtin .append, args := #[s, x], argTypes := #[t, t] }) (k : Nat) (hk : 0 < k)
    (E : TypeId) (i : TypeInfo) (z : Value) (bytes : Nat) (ht : P.underlying t = some (.slice E)) (hi : P.info? E = some i) (hz : i.zero = some z)
    (hsize : i.size = k) (hzs : z.cells.size = k) (hby : i.bytes = bytes) (lo : Nat) (A0 : Option Addr) (n c0 : Nat) (L : List Dat) (B : Nat → Prop) (hs : a.eval s = .slice A0 n c0) (hO : Grow E k lo w A0 n c0 L B)
    (A : Option Addr) (m c : Nat) (L2 : List Dat) (B2 : Nat → Prop) (hx : a.eval x = .slice A m c) (hR : Src k w A m L2 B2) (hd : ∀ b, B b → ¬ B2 b) (hd2 : ∀ a, A0 = some a → ¬ B2 a.block) (h63 : n + m ≤ maxLen) (hbytes : (n + m) * bytes ≤ 140737488355328) (hlo : lo ≤ w.heap.size)
    (h : ∀ A' c' w', Grow E k lo w' A' (n + m) c' (L ++ L2) (fun b => B b ∨ B2 b) → Touch (fun b => ∃ a, A0 = some a ∧ b = a.block) w w' → (∀ a, A' = some a → A0 = some a ∨ w.heap.size ≤ a.block) → K (a.put o.dst (.slice A' (n + m) c')) w') :
    if Region.wanted o (yielded ops a.tmps) = true then Oper.wp P o a w K Q else X := by
  have hw : Region.wanted o (yielded ops a.tmps) = true := by simp [Region.wanted, hgd]
  rw [if_pos hw]
  exact wp_append_dat w s x t ho k hk E i z bytes ht hi hz hsize hzs hby lo A0 n c0 L B hs hO A m c L2 B2 hx hR hd hd2 h63 hbytes hlo h
end
/-! ### Data without slices: what reads so is owned so -/
mutual
def Dat.flat : Dat → Bool
  | .i _ => true
  | .s _ => true
  | .b _ => true
  | .r ds => flatAll ds
  | .l _ => false
def flatAll : List Dat → Bool
  | [] => true
  | d :: ds => d.flat && flatAll ds
end
mutual
theorem Lies.owns : ∀ {w : World} {d : Dat} {cs : List Value}, d.flat = true → Lies w d cs → Owns w d cs (fun _ => False)
  | _, .i _, _, _, h => by rw [Lies] at h; rw [Owns]; exact h
  | _, .s _, _, _, h => by rw [Lies] at h; rw [Owns]; exact h
  | _, .b _, _, _, h => by rw [Lies] at h; rw [Owns]; exact h
  | _, .r ds, _, hf, h => by rw [Lies] at h; rw [Owns]; exact LiesAll.owns (by simpa [Dat.flat] using hf) h
  | _, .l _, _, hf, _ => by simp [Dat.flat] at hf
theorem LiesAll.owns : ∀ {w : World} {ds : List Dat} {cs : List Value}, flatAll ds = true → LiesAll w ds cs → OwnsAll w ds cs (fun _ => False)
  | _, [], _, _, h => by rw [LiesAll] at h; rw [OwnsAll]; exact h
  | _, d :: ds, _, hf, h => by
    rw [LiesAll] at h
    rw [OwnsAll]
    obtain ⟨c1, c2, rfl, h1, h2⟩ := h
    simp only [flatAll, Bool.and_eq_true] at hf
    exact ⟨c1, c2, (fun _ => False), (fun _ => False), rfl, (fun b h => h), (fun b h => h), (fun b h _ => h), Lies.owns hf.1 h1, LiesAll.owns hf.2 h2⟩
end
theorem flatAll_of : ∀ {ds : List Dat}, (∀ x ∈ ds, x.flat = true) → flatAll ds = true
  | [], _ => rfl
  | d :: ds, h => by rw [flatAll, h d (by simp), flatAll_of (fun x hx => h x (List.mem_cons_of_mem _ hx))]; rfl
/-- A slice of such data, as a source. -/
theorem Src.of_lies {w : World} {k : Nat} {L : List Dat} {A : Option Addr} {n c : Nat} (h : Lies w (.l L) [.slice A n c]) (hk : ∀ x ∈ L, x.width = k) (hf : ∀ x ∈ L, x.flat = true) : Src k w A n L (fun _ => False) := by
  have hn := h.count
  rw [Lies] at h
  obtain ⟨A', n', c', e, -, h⟩ := h
  simp only [List.cons.injEq, Value.slice.injEq, and_true] at e
  obtain ⟨rfl, rfl, rfl⟩ := e
  rcases h with rfl | ⟨b, off, xs, rfl, hlt, hx, hc⟩
  · exact ⟨[], Or.inl rfl, (by rw [OwnsAll]), hn, (fun x hx => by cases hx), (fun b h => h.elim)⟩
  · exact ⟨xs, Or.inr ⟨b, off, rfl, hlt, hc⟩, LiesAll.owns (flatAll_of hf) hx, hn, hk, (fun b h => h.elim)⟩
end Go.Proofs.YthgcodbcafpmhaaDoor
