/- A string's bytes, both ways. -/
import Derived.Test.YtchofnligbgigaaBase
import Derived.Laws.IdiomStrings
namespace Go.Proofs.Ytchofnligbgigaa
open Go.RowKit
/-- A string's bytes as numbers. -/
def strI (s : ByteArray) : List Int := s.data.toList.map fun b => (b.toNat : Int)
theorem strI_len (s : ByteArray) : (strI s).length = s.size := by rw [strI, List.length_map, Array.length_toList]; rfl
theorem strI_byt (s : ByteArray) : Byt (strI s) := fun z hz => by
  obtain ⟨b, -, rfl⟩ := List.mem_map.1 hz
  have := b.toNat_lt
  omega
theorem bytesOfStr (w : World) (s : ByteArray) : ∃ A n c w', (convert 9 22 (.string s)).run Try.prog w = .ok (.slice A n c) w' ∧ Rz .u8 w' A n (strI s) ∧ n = s.size ∧ Below w.heap.size w w' := by
  have hc := run_bytes_of_string (P := Try.prog) w 9 22 5 s Try.underlying9 Try.underlying22 Try.underlying5
  generalize grownCap w s.size 0 5 = cp at hc
  refine ⟨_, _, _, _, hc, ⟨strI_len s, Or.inr ⟨w.heap.size, 0, rfl, by simp, fun j v hj => ?_⟩⟩, rfl, ((Below.refl _ _).drew).alloc (Nat.le_refl _) _⟩
  have hjl : j < s.data.size := by
    have := (List.getElem?_eq_some_iff.1 hj).1
    rw [List.length_map, strI_len] at this
    exact this
  have hv : v = .int .u8 (s.data[j].toNat : Int) := by
    rw [strI, List.map_map, List.getElem?_map, List.getElem?_eq_getElem (by simpa using hjl)] at hj
    simp at hj
    exact hj.symm
  rw [hv, ← bytesRow_at s cp j hjl, Nat.zero_add]
  exact cell_of_row _ w.heap.size j (bytesRow s cp) 5 ((bytesRow s cp).size, (bytesRow s cp).size + 1) (by show (w.heap.push _)[w.heap.size]? = _; simp)
def bytesOf (zs : List Int) : ByteArray := ⟨(zs.map fun (z : Int) => UInt8.ofNat z.toNat).toArray⟩
theorem conv (w : World) (A : Option Addr) (n c : Nat) (zs : List Int) (h : Rz .u8 w A n zs) (hb : Byt zs) : (convert 22 9 (.slice A n c)).run Try.prog w = .ok (.string (bytesOf zs)) w := by
  have hl := h.1
  rcases h.2 with hn | ⟨b, off, rfl, hlt, hc⟩
  · have : zs = [] := by simpa using hn
    subst this
    simp at hl
    subst hl
    rw [run_convert_bytes_string w 22 9 5 A 0 c Try.underlying22 Try.underlying5 Try.underlying9]
    cases A <;> simp [bytesOf, Conv.bytesToString, go_sem] <;> rfl
  · have k := run_convert_bytes_back (P := Try.prog) w 22 9 5 ⟨b, off, none⟩ c (zs.map fun (z : Int) => UInt8.ofNat z.toNat) Try.underlying22 Try.underlying5 Try.underlying9 (fun j hj => by
      have hj' : j < zs.length := by simpa using hj
      have hz := hb.at_ (List.getElem?_eq_getElem hj')
      rw [Addr.add_lit, hc j (.int .u8 zs[j]) (by simp [hj'])]
      have e : ((UInt8.ofNat zs[j].toNat).toNat : Int) = zs[j] := by
        rw [UInt8.toNat_ofNat']
        omega
      rw [List.getElem_map, e])
    rw [List.length_map, hl] at k
    exact k
end Go.Proofs.Ytchofnligbgigaa
