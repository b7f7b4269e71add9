/- Of no program: how many marks data bear, by how much a law counts them; blocks of a range. -/
import Derived.Test.YtaepconmjmcbdaaDatMark
namespace Go.Proofs.Ytaepconmjmcbdaa
open Go.RowKit
mutual
/-- The marks of a datum that lie in no slice. -/
def leafs : Ty → Nat
  | .int => 1
  | .str => 1
  | .bool => 1
  | .rcd ts => leafsAll ts
  | .sl _ => 0
def leafsAll : List Ty → Nat
  | [] => 0
  | t :: ts => leafs t + leafsAll ts
end
mutual
/-- Each slice's elements bear at most K such marks. -/
def fewB (K : Nat) : Ty → Bool
  | .int => true
  | .str => true
  | .bool => true
  | .rcd ts => fewAll K ts
  | .sl t => decide (leafs t ≤ K) && fewB K t
def fewAll (K : Nat) : List Ty → Bool
  | [] => true
  | t :: ts => fewB K t && fewAll K ts
end
theorem cnt_sum {K m : Nat} : ∀ {ds : List Dat}, m ≤ K → (∀ x ∈ ds, x.cnt ≤ K * x.bulk + m) → cntAll ds ≤ K * (ds.length + bulkAll ds)
  | [], _, _ => by simp [cntAll]
  | d :: ds, hm, h => by
    have h1 := h d (by simp)
    have h2 := cnt_sum (ds := ds) hm (fun x hx => h x (List.mem_cons_of_mem _ hx))
    rw [cntAll, List.length_cons, bulkAll]
    have e : K * (ds.length + 1 + (d.bulk + bulkAll ds)) = K * (ds.length + bulkAll ds) + (K * d.bulk + K) := by
      rw [show ds.length + 1 + (d.bulk + bulkAll ds) = (ds.length + bulkAll ds) + (d.bulk + 1) by omega, Nat.mul_add, Nat.mul_add K d.bulk 1, Nat.mul_one]
    omega
mutual
theorem Has.few {K : Nat} : ∀ {t : Ty} {d : Dat}, fewB K t = true → Has t d → d.cnt ≤ K * d.bulk + leafs t
  | .int, _, _, h => by rw [Has] at h; obtain ⟨n, rfl, -⟩ := h; simp [Dat.cnt, leafs]
  | .str, _, _, h => by rw [Has] at h; obtain ⟨n, rfl, -⟩ := h; simp [Dat.cnt, leafs]
  | .bool, _, _, h => by rw [Has] at h; obtain ⟨n, rfl⟩ := h; simp [Dat.cnt, leafs]
  | .rcd ts, _, hk, h => by
    rw [Has] at h
    obtain ⟨ds, rfl, h⟩ := h
    rw [fewB] at hk
    rw [Dat.cnt, Dat.bulk, leafs]
    exact HasAll.few hk h
  | .sl t, _, hk, h => by
    rw [Has] at h
    obtain ⟨ds, rfl, -, h⟩ := h
    simp only [fewB, Bool.and_eq_true, decide_eq_true_eq] at hk
    rw [Dat.cnt, Dat.bulk, leafs]
    exact cnt_sum hk.1 (fun x hx => Has.few hk.2 (h x hx))
theorem HasAll.few {K : Nat} : ∀ {ts : List Ty} {ds : List Dat}, fewAll K ts = true → HasAll ts ds → cntAll ds ≤ K * bulkAll ds + leafsAll ts
  | [], _, _, h => by rw [HasAll] at h; subst h; simp [cntAll, leafsAll]
  | t :: ts, _, hk, h => by
    rw [HasAll] at h
    obtain ⟨d, ds', rfl, h1, h2⟩ := h
    simp only [fewAll, Bool.and_eq_true] at hk
    have g1 := Has.few hk.1 h1
    have g2 := HasAll.few hk.2 h2
    rw [cntAll, bulkAll, leafsAll, Nat.mul_add]
    omega
end
theorem cnt_few {K B : Nat} {t : Ty} {L : List Dat} (hk : (decide (leafs t ≤ K) && fewB K t) = true) (h : ∀ x ∈ L, Has t x) (hb : (Dat.l L).bulk ≤ B) : cntAll L ≤ K * B := by
  simp only [Bool.and_eq_true, decide_eq_true_eq] at hk
  have h1 := cnt_sum (K := K) hk.1 (fun x hx => Has.few hk.2 (h x hx))
  rw [Dat.bulk] at hb
  exact Nat.le_trans h1 (Nat.mul_le_mul_left K hb)
/-- Blocks from lo on and below hi. -/
def rng (lo hi : Nat) : Nat → Prop := fun b => lo ≤ b ∧ b < hi
theorem rng_apart {lo hi lo' hi' : Nat} (h : hi ≤ lo' ∨ hi' ≤ lo) : ∀ b, rng lo hi b → ¬ rng lo' hi' b := fun b h1 h2 => by
  obtain ⟨h1, h3⟩ := h1
  obtain ⟨h2, h4⟩ := h2
  omega
theorem Touch.low {lo hi : Nat} {W w w' : World} (h : Touch (rng lo hi) w w') (hb : Below W.heap.size W w) (hl : W.heap.size ≤ lo) : Below W.heap.size W w' := hb.trans (h.below (fun _ h1 => Nat.le_trans hl h1.1) hb.size)
theorem Box.touch {S : Nat → Prop} {b : Nat} {cs : List Value} {w w' : World} (h : Box b cs w) (ht : Touch S w w') (hb : ¬ S b) : Box b cs w' :=
  ⟨Nat.lt_of_lt_of_le h.1 ht.size, fun i v hv => (World.cell?_of_block (w := w) (a := ⟨b, i, none⟩) (ht.block b h.1 hb)).trans (h.2 i v hv)⟩
theorem rng_out {lo hi b : Nat} (h : b < lo ∨ hi ≤ b) : ¬ rng lo hi b := fun h1 => by
  obtain ⟨h1, h3⟩ := h1
  omega
end Go.Proofs.Ytaepconmjmcbdaa
