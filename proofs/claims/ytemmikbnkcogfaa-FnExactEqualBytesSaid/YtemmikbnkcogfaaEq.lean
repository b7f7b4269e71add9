/- EqualBytes, the program's and the reference's: one answer. -/
import Derived.Test.YtemmikbnkcogfaaSlB
import Derived.Test.YtemmikbnkcogfaaVar
import Derived.Laws.IdiomStrings
namespace Go.Proofs.Ytemmikbnkcogfaa
open Go.RowKit
def bytesOf (zs : List Int) : ByteArray := ⟨(zs.map fun (z : Int) => UInt8.ofNat z.toNat).toArray⟩
theorem conv (w : World) (A : Option Addr) (n c : Nat) (zs : List Int) (h : Rz .u8 w A n zs) (hb : Byt zs) : (convert 22 9 (.slice A n c)).run Try.prog w = .ok (.string (bytesOf zs)) w := by
  have hl := h.1
  rcases h.2 with hn | ⟨b, off, rfl, hlt, hc⟩
  · have : zs = [] := by simpa using hn
    subst this
    simp at hl
    subst hl
    rw [run_convert_bytes_string w 22 9 5 A 0 c Try.underlying22 Try.underlying5 Try.underlying9]
    cases A <;> simp [bytesOf, Conv.bytesToString, go_sem] <;> rfl
  · have k := run_convert_bytes_back (P := Try.prog) w 22 9 5 ⟨b, off, none⟩ c (zs.map fun (z : Int) => UInt8.ofNat z.toNat) Try.underlying22 Try.underlying5 Try.underlying9 (fun j hj => by
      have hj' : j < zs.length := by simpa using hj
      have hz := hb.at_ (List.getElem?_eq_getElem hj')
      rw [Addr.add_lit, hc j (.int .u8 zs[j]) (by simp [hj'])]
      have e : ((UInt8.ofNat zs[j].toNat).toNat : Int) = zs[j] := by
        rw [UInt8.toNat_ofNat']
        omega
      rw [List.getElem_map, e])
    rw [List.length_map, hl] at k
    exact k
theorem specEq (A A' : Option Addr) (n n' c c' : Nat) (zs zs' : List Int) (w : World) (h : Rz .u8 w A n zs) (h' : Rz .u8 w A' n' zs') (hb : Byt zs) (hb' : Byt zs') (b : Bool) (he : ((bytesOf zs).toList == (bytesOf zs').toList) = b) :
    Calls Try.prog 39 #[.slice A n c, .slice A' n' c'] w (GivesBool b w) := by
  have k1 := conv w A n c zs h hb
  have k2 := conv w A' n' c' zs' h' hb'
  have HE := Lib.hid he
  clear h h' he
  go_enter Try.func39, Try.ntmps39
  go_wp2
  go_ret
  rw [HE.out]
  exact GivesBool.ret (Below.refl _ _)
theorem libEq (A A' : Option Addr) (n n' c c' : Nat) (zs zs' : List Int) (w : World) (h : Rz .u8 w A n zs) (h' : Rz .u8 w A' n' zs') (hb : Byt zs) (hb' : Byt zs') (b : Bool) (he : ((bytesOf zs).toList == (bytesOf zs').toList) = b) :
    Calls Try.prog 53 #[.slice A n c, .slice A' n' c'] w (GivesBool b w) := by
  have k1 := conv w A n c zs h hb
  have k2 := conv w A' n' c' zs' h' hb'
  have HE := Lib.hid he
  clear h h' he
  go_enter Try.func53, Try.ntmps53
  go_wp2
  go_ret
  rw [HE.out]
  exact GivesBool.ret (Below.refl _ _)
theorem implEq (A A' : Option Addr) (n n' c c' : Nat) (zs zs' : List Int) (w : World) (h : Rz .u8 w A n zs) (h' : Rz .u8 w A' n' zs') (hb : Byt zs) (hb' : Byt zs') (b : Bool) (he : ((bytesOf zs).toList == (bytesOf zs').toList) = b) :
    Calls Try.prog 40 #[.slice A n c, .slice A' n' c'] w (GivesBool b w) := by
  have HE := Lib.hid he
  have H := Lib.hid h
  have H' := Lib.hid h'
  clear h h' he
  go_enter Try.func40, Try.ntmps40
  go_wp2_with fail
  refine (libEq A A' n n' c c' zs zs' _ H.out H'.out hb hb' b HE.out).mono ?_
  rintro e w1 ⟨rfl, hB⟩
  go_wp2_with fail
  go_ret
  exact GivesBool.ret hB
end Go.Proofs.Ytemmikbnkcogfaa
