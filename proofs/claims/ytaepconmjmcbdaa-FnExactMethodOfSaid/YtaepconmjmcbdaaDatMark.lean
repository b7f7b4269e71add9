/- Of no program (but for the text of a mark): what marks leave of data. -/
import Derived.Test.YtaepconmjmcbdaaDatApp
import Derived.Test.YtaepconmjmcbdaaMText
namespace Go.Proofs.Ytaepconmjmcbdaa
open Go.RowKit
mutual
/-- How many marks. -/
def Dat.cnt : Dat → Nat
  | .i _ => 1
  | .s _ => 1
  | .b _ => 1
  | .r ds => cntAll ds
  | .l ds => cntAll ds
def cntAll : List Dat → Nat
  | [] => 0
  | d :: ds => d.cnt + cntAll ds
end
mutual
/-- The datum marked, from z on. -/
def mkd : Dat → Int → Dat
  | .i _, z => .i z
  | .s _, z => .s (mtext z.toNat)
  | .b _, z => .b (z % 3 == 0)
  | .r ds, z => .r (mkAll ds z)
  | .l ds, z => .l (mkAll ds z)
def mkAll : List Dat → Int → List Dat
  | [], _ => []
  | d :: ds, z => mkd d z :: mkAll ds (z + d.cnt)
end
mutual
theorem mkd_width : ∀ (d : Dat) (z : Int), (mkd d z).width = d.width
  | .i _, _ => rfl
  | .s _, _ => rfl
  | .b _, _ => rfl
  | .r ds, z => by rw [mkd, Dat.width, Dat.width]; exact mkAll_width ds z
  | .l _, _ => rfl
theorem mkAll_width : ∀ (ds : List Dat) (z : Int), widthAll (mkAll ds z) = widthAll ds
  | [], _ => rfl
  | d :: ds, z => by rw [mkAll, widthAll, widthAll, mkd_width d z, mkAll_width ds]
end
theorem mkAll_len : ∀ (ds : List Dat) (z : Int), (mkAll ds z).length = ds.length
  | [], _ => rfl
  | d :: ds, z => by rw [mkAll, List.length_cons, List.length_cons, mkAll_len ds]
theorem cntAll_append : ∀ (a b : List Dat), cntAll (a ++ b) = cntAll a + cntAll b
  | [], b => by simp [cntAll]
  | x :: a, b => by rw [List.cons_append, cntAll, cntAll, cntAll_append a b]; omega
theorem mkAll_append : ∀ (a b : List Dat) (z : Int), mkAll (a ++ b) z = mkAll a z ++ mkAll b (z + cntAll a)
  | [], b, z => by simp [mkAll, cntAll]
  | x :: a, b, z => by
    rw [List.cons_append, mkAll, mkAll, mkAll_append a b, List.cons_append, cntAll]
    have e : z + (x.cnt : Int) + (cntAll a : Int) = z + ((x.cnt + cntAll a : Nat) : Int) := by omega
    rw [e]
theorem cnt_next {L : List Dat} {i : Nat} {d : Dat} (h : L[i]? = some d) : cntAll (L.take (i + 1)) = cntAll (L.take i) + d.cnt := by
  rw [List.take_add_one, h, cntAll_append]
  simp [cntAll]
theorem cnt_take_le (L : List Dat) (i : Nat) : cntAll (L.take i) ≤ cntAll L := by
  have h := cntAll_append (L.take i) (L.drop i)
  rw [List.take_append_drop] at h
  omega
theorem mkAll_at {L : List Dat} {i : Nat} {d : Dat} {z : Int} (h : L[i]? = some d) : (mkAll L z)[i]? = some (mkd d (z + cntAll (L.take i))) := by
  have hi : i < L.length := (List.getElem?_eq_some_iff.1 h).1
  have e : L = L.take i ++ d :: L.drop (i + 1) := by
    have h1 : L[i] = d := (List.getElem?_eq_some_iff.1 h).2
    rw [← h1, List.getElem_cons_drop, List.take_append_drop]
  have hl : (mkAll (L.take i) z).length = i := by rw [mkAll_len, List.length_take]; omega
  rw [show mkAll L z = mkAll (L.take i ++ d :: L.drop (i + 1)) z by rw [← e], mkAll_append, mkAll, List.getElem?_append_right (by omega), hl]
  simp
/-- The first i are marked. -/
def half (L : List Dat) (z : Int) (i : Nat) : List Dat := mkAll (L.take i) z ++ L.drop i
theorem half_zero (L : List Dat) (z : Int) : half L z 0 = L := by simp [half, mkAll]
theorem half_all {L : List Dat} {z : Int} {n : Nat} (h : L.length = n) : half L z n = mkAll L z := by
  rw [half, List.take_of_length_le (by omega), List.drop_of_length_le (by omega), List.append_nil]
theorem half_at {L : List Dat} {z : Int} {i : Nat} {d : Dat} (h : L[i]? = some d) : (half L z i)[i]? = some d := by
  have hi : i < L.length := (List.getElem?_eq_some_iff.1 h).1
  have hl : (mkAll (L.take i) z).length = i := by rw [mkAll_len, List.length_take]; omega
  rw [half, List.getElem?_append_right (by omega), hl, List.getElem?_drop]
  simpa using h
theorem half_set {L : List Dat} {z : Int} {i : Nat} {d : Dat} (h : L[i]? = some d) : (half L z i).set i (mkd d (z + cntAll (L.take i))) = half L z (i + 1) := by
  have hi : i < L.length := (List.getElem?_eq_some_iff.1 h).1
  have hl : (mkAll (L.take i) z).length = i := by rw [mkAll_len, List.length_take]; omega
  have h1 : L.drop i = d :: L.drop (i + 1) := by
    have h2 : L[i] = d := (List.getElem?_eq_some_iff.1 h).2
    rw [← h2, List.getElem_cons_drop]
  rw [half, half, h1, List.set_append_right i _ (by omega), hl, Nat.sub_self, List.set_cons_zero, List.take_add_one, h, mkAll_append]
  simp [mkAll]
theorem half_width {L : List Dat} {z : Int} {i k : Nat} (h : ∀ x ∈ L, x.width = k) : ∀ x ∈ half L z i, x.width = k := by
  intro x hx
  rcases List.mem_append.1 hx with hx | hx
  · obtain ⟨j, hj, rfl⟩ := List.getElem_of_mem hx
    have hjl : j < (L.take i).length := by rw [mkAll_len] at hj; exact hj
    have h1 := mkAll_at (L := L.take i) (z := z) (i := j) (List.getElem?_eq_getElem hjl)
    rw [List.getElem?_eq_getElem hj] at h1
    rw [Option.some.inj h1, mkd_width]
    exact h _ (List.mem_of_mem_take (List.getElem_mem hjl))
  · exact h x (List.mem_of_mem_drop hx)
theorem half_len (L : List Dat) (z : Int) (i : Nat) : (half L z i).length = L.length := by
  rw [half, List.length_append, mkAll_len, List.length_take, List.length_drop]; omega
theorem markTextZ (z : Int) (w : World) (h0 : 0 < z) (h1 : z ≤ 1099511627776) : Calls Try.prog 72 #[.int .i64 z] w (GivesT (mtext z.toNat) w) := by
  obtain ⟨k, rfl⟩ : ∃ k : Nat, z = k := ⟨z.toNat, by omega⟩
  exact markText k w (by omega) (by omega)
end Go.Proofs.Ytaepconmjmcbdaa
