/- The laws' text of a mark. -/
import Derived.Test.YtaepconmjmcbdaaSlB
import Derived.Test.YtaepconmjmcbdaaVar
import Derived.Laws.IdiomStrings
import Derived.Laws.Concat
import Derived.Handy
namespace Go.Proofs.Ytaepconmjmcbdaa
open Go.RowKit
/-- One byte as a string. -/
def byteText (z : Int) : ByteArray := ⟨#[UInt8.ofNat z.toNat]⟩
theorem conv1 (w : World) (z : Int) (h0 : 0 ≤ z) (h1 : z ≤ 255) : (convert 22 9 (.slice (some ⟨w.heap.size, 0, none⟩) 1 1)).run Try.prog (w.alloc (.cells #[.int .u8 z] 5)) = .ok (.string (byteText z)) (w.alloc (.cells #[.int .u8 z] 5)) := by
  have k := run_convert_bytes_back (P := Try.prog) (w.alloc (.cells #[.int .u8 z] 5)) 22 9 5 ⟨w.heap.size, 0, none⟩ 1 [UInt8.ofNat z.toNat] Try.underlying22 Try.underlying5 Try.underlying9 (fun j hj => by
    obtain rfl : j = 0 := by simpa using hj
    rw [Addr.add_lit, World.cell?_alloc_new]
    simp
    omega)
  exact k
def mloop (m : Nat) (out : ByteArray) : ByteArray := if _h : m = 0 then out else mloop (m / 10) (byteText (48 + (m : Int) % 10) ++ out)
termination_by m
decreasing_by omega
theorem mloop_zero (out : ByteArray) : mloop 0 out = out := by rw [mloop]; simp
theorem mloop_step {m : Nat} (out : ByteArray) (h : 0 < m) : mloop m out = mloop (m / 10) (byteText (48 + (m : Int) % 10) ++ out) := by rw [mloop, dif_neg (by omega)]
def mtext (k : Nat) : ByteArray := ⟨#[109]⟩ ++ mloop k ⟨#[]⟩
/-- A string comes back. -/
def GivesT (s : ByteArray) (w : World) (e : Ending) (w' : World) : Prop := e = .returned (.string s) ∧ Below w.heap.size w w'
theorem GivesT.ret {s t : ByteArray} {w w' : World} (h : s = t) (hb : Below w.heap.size w w') : GivesT t w (.returned (.string s)) w' := ⟨by rw [h], hb⟩
set_option maxHeartbeats 2000000 in
theorem markText (k : Nat) (w : World) (h0 : 0 < k) (h1 : k ≤ 1099511627776) : Calls Try.prog 72 #[.int .i64 k] w (GivesT (mtext k) w) := by
  go_enter Try.func72, Try.ntmps72
  go_wp2
  go_loopw [0, 3] (fun kv ov wr => ∃ (m : Nat) (out : ByteArray), kv = .int .i64 m ∧ ov = .string out ∧ out.size + m ≤ k ∧ mloop m out = mloop k ⟨#[]⟩ ∧ Below w.heap.size w wr) (fun kv _ _ => (intOf kv).toNat)
  case atStart => exact ⟨k, ⟨#[]⟩, rfl, rfl, (by show 0 + k ≤ k; omega), rfl, Below.refl _ _⟩
  case round =>
    obtain ⟨m, out, rfl, rfl, hs, hm, hb⟩ := hrel
    have HM := Lib.hid hm
    have HB := Lib.hid hb
    clear hm hb
    by_cases hlt : 0 < m
    · have hr0 : 0 ≤ (m : Int) % 10 := by omega
      have hr1 : (m : Int) % 10 ≤ 9 := by omega
      have hcv := conv1 wr (48 + (m : Int) % 10) (by omega) (by omega)
      have hsz : (byteText (48 + (m : Int) % 10)).size = 1 := rfl
      have hsz1 : (byteText (48 + (m : Int) % 10)).size ≤ 1 := by rw [hsz]; exact Nat.le_refl _
      have HN : Hid (mloop (m / 10) (byteText (48 + (m : Int) % 10) ++ out) = mloop k ⟨#[]⟩) := Lib.hid (by rw [← mloop_step out hlt]; exact HM.out)
      have HS : Hid ((byteText (48 + (m : Int) % 10) ++ out).size + m / 10 ≤ k) := Lib.hid (by rw [ByteArray.size_append, hsz]; omega)
      have hout : out.size ≤ 1099511627776 := by omega
      clear hsz
      generalize byteText (48 + (m : Int) % 10) = t at *
      go_wp2
      go_roundw
      case rel => exact ⟨m / 10, t ++ out, by go_num, rfl, HS.out, HN.out, HB.out.alloc HB.out.size _⟩
      case measure => simp [intOf]; omega
    · obtain rfl : m = 0 := by omega
      have HE : Hid (⟨#[109]⟩ ++ out = mtext k) := Lib.hid (by rw [mtext, ← HM.out, mloop_zero])
      have hout : out.size ≤ 1099511627776 := by omega
      have h109 : (⟨#[109]⟩ : ByteArray).size = 1 := rfl
      go_wp2
      go_ret
      exact GivesT.ret HE.out HB.out
end Go.Proofs.Ytaepconmjmcbdaa
